/- The machine, third part: loops of few rounds, unrolled. No program is named here. -/
import Derived.Test.YtheknddbbgjpkaaEngW
import Derived.LoopN
namespace Go.Eng
open Go.RowKit
set_option linter.unusedVariables false
set_option linter.unusedSimpArgs false

theorem seqOps_keep {C : Cfg} {ops : List Oper} : ∀ (l : List Oper) (st : St) (K : List (Nat × Bool)) (r : St), Inv st → Agree K (look st.heap) → (seqOps C ops l st).eval = some r → Inv r ∧ Agree K (look r.heap)
  | [], st, K, r, hi, hK, h => by
    simp only [seqOps, T.eval, Option.some.injEq] at h
    subst h; exact ⟨hi, hK⟩
  | o :: l, st, K, r, hi, hK, h => by
    unfold seqOps at h
    obtain ⟨⟨v, u⟩, h1, h⟩ := T.eval_bind_some h
    simp only at h
    by_cases hc : (partsOk st.size (getT st.tmps) o && chk (lt (nxt st.next u)) (look st.heap) st.next v u) = true
    · rw [if_pos hc] at h
      simp only [Bool.and_eq_true] at hc
      refine seqOps_keep l _ K r ?_ ?_ h
      · refine push_lt hc.2 (fun _ _ h => h) hi (le_nxt _ _) ?_
        intro hne
        unfold nxt
        have : u.isEmpty = false := by cases hx : u <;> simp_all
        simp [this]
      · exact agree_push hK hc.2 (fun _ _ h => h) hi
    · rw [if_neg hc] at h; cases h
theorem drawOps_keep {C : Cfg} {ops : List Oper} {ms : List Nat} {base : Nat} : ∀ (l : List Oper) (j : Nat) (st : St) (K : List (Nat × Bool)) (r : St × List Rec), (∀ i b, look st.heap i = some b → i < base + stride * j) → Agree K (look st.heap) →
    (drawOps C ops ms base j l st).eval = some r → (∀ i b, look r.1.heap i = some b → i < base + stride * (j + l.length)) ∧ Agree K (look r.1.heap)
  | [], j, st, K, r, hi, hK, h => by
    simp only [drawOps, T.eval, Option.some.injEq] at h
    subst h; exact ⟨hi, hK⟩
  | o :: l, j, st, K, r, hi, hK, h => by
    unfold drawOps at h
    obtain ⟨x, h1, h⟩ := T.eval_bind_some h
    by_cases hc : (partsOk st.size (getT st.tmps) o && chk (allowed base (ms.getD j 0) j) (restr (needOf ops (getT st.tmps) (look st.heap) o) (look st.heap)) (base + stride * j) x.1 x.2) = true
    · rw [if_pos hc] at h
      simp only [Bool.and_eq_true] at hc
      obtain ⟨y, h3, h⟩ := T.eval_bind_some h
      obtain ⟨i2, i3⟩ := drawOps_keep l (j + 1) ⟨setL st.tmps o.dst x.1, x.2 ++ st.heap, st.next, st.size⟩ K y (by
        refine push_lt hc.2 restr_sub hi (by unfold stride; omega) (fun _ => by unfold stride; omega)) (agree_push hK hc.2 restr_sub hi) h3
      simp only [T.eval, Option.some.injEq] at h
      subst h
      refine ⟨?_, i3⟩
      intro i b hb
      have := i2 i b hb
      simp only [List.length_cons] at *
      rw [show j + (l.length + 1) = j + 1 + l.length by omega]
      exact this
    · rw [if_neg hc] at h; cases h
theorem drawAll_keep {C : Cfg} {ops : List Oper} {st : St} {K : List (Nat × Bool)} {r : St} (hi : Inv st) (hK : Agree K (look st.heap)) (h : (drawAll C ops st).eval = some r) : Inv r ∧ Agree K (look r.heap) := by
  unfold drawAll at h
  split at h
  · obtain ⟨x, h1, h⟩ := T.eval_bind_some h
    obtain ⟨h3, h4⟩ := drawOps_keep ops 0 st K x (by intro i b hb; have := hi i b hb; simpa using this) hK h1
    split at h
    · simp only [T.eval, Option.some.injEq] at h
      subst h
      refine ⟨?_, h4⟩
      intro i b hb
      have := h3 i b hb
      simpa using this
    · cases h
  · cases h
theorem branch_eval {α : Type} {L : Look} {v : V} {x y : T α} {r : α} (h : (branchV L v x y).eval = some r) : x.eval = some r ∨ y.eval = some r := by
  have both : ∀ {i : Option Nat} {c : Bool}, (T.ite i c x y).eval = some r → x.eval = some r ∨ y.eval = some r := by
    intro i c h
    cases c
    · exact .inr h
    · exact .inl h
  unfold branchV at h
  split at h
  · exact .inl h
  · exact .inr h
  · exact both h
  · split at h
    · exact both h
    · cases h
  · cases h
theorem exec_keep {C : Cfg} {Λ : Loops} : ∀ (c : Code) (st : St) (K : List (Nat × Bool)) (r : Ex × St), LoopsOk C Λ c → Inv st → Agree K (look st.heap) → (exec C Λ c st).eval = some r → Inv r.2 ∧ Agree K (look r.2.heap)
  | .skip, st, K, r, _, hi, hK, h => by simp only [exec, T.eval, Option.some.injEq] at h; subst h; exact ⟨hi, hK⟩
  | .exit _, st, K, r, _, hi, hK, h => by simp only [exec, T.eval, Option.some.injEq] at h; subst h; exact ⟨hi, hK⟩
  | .ret, st, K, r, _, hi, hK, h => by simp only [exec, T.eval, Option.some.injEq] at h; subst h; exact ⟨hi, hK⟩
  | .region id ops draw, st, K, r, _, hi, hK, h => by
    unfold exec at h
    obtain ⟨x, h1, h⟩ := T.eval_bind_some h
    simp only [T.eval, Option.some.injEq] at h
    subst h
    cases draw with
    | true => exact drawAll_keep hi hK h1
    | false => exact seqOps_keep _ _ _ _ hi hK h1
  | .seq a b, st, K, r, hl, hi, hK, h => by
    unfold exec at h
    obtain ⟨x, h1, h⟩ := T.eval_bind_some h
    obtain ⟨h3, h4⟩ := exec_keep a st K x hl.1 hi hK h1
    obtain ⟨e, s1⟩ := x
    cases e with
    | normal => exact exec_keep b s1 K r hl.2 h3 h4 h
    | exit i => simp only [T.eval, Option.some.injEq] at h; subst h; exact ⟨h3, h4⟩
    | ret => simp only [T.eval, Option.some.injEq] at h; subst h; exact ⟨h3, h4⟩
  | .block id a, st, K, r, hl, hi, hK, h => by
    unfold exec at h
    obtain ⟨x, h1, h⟩ := T.eval_bind_some h
    obtain ⟨h3, h4⟩ := exec_keep a st K x hl hi hK h1
    obtain ⟨e, s1⟩ := x
    cases e with
    | normal => simp only [T.eval, Option.some.injEq] at h; subst h; exact ⟨h3, h4⟩
    | exit i =>
      simp only at h
      split at h
      · simp only [T.eval, Option.some.injEq] at h; subst h; exact ⟨h3, h4⟩
      · simp only [T.eval, Option.some.injEq] at h; subst h; exact ⟨h3, h4⟩
    | ret => simp only [T.eval, Option.some.injEq] at h; subst h; exact ⟨h3, h4⟩
  | .cond c a b, st, K, r, hl, hi, hK, h => by
    unfold exec at h
    rcases branch_eval h with h | h
    · exact exec_keep a st K r hl.1 hi hK h
    · exact exec_keep b st K r hl.2 hi hK h
  | .loop a, st, K, r, hl, hi, hK, h => by
    unfold exec at h
    split at h
    · rename_i sp hsp
      rw [T.eval_strip] at h
      obtain ⟨k1, k2⟩ := (hl sp hsp).keep st r h hi
      exact ⟨k1, fun i b hb => k2 i b (hK i b hb)⟩
    · cases h
  | .rangeFunc .., st, K, r, _, hi, hK, h => by cases h
  | .scope _, st, K, r, _, hi, hK, h => by cases h
  | .label _, st, K, r, _, hi, hK, h => by cases h
  | .goto _, st, K, r, _, hi, hK, h => by cases h
  | .refuse _, st, K, r, _, hi, hK, h => by cases h

/-- a loop's rounds, one after another, at most n -/
def unroll (C : Cfg) (Λ : Loops) (a : Code) : Nat → LSpec
  | 0, _ => .fail
  | n + 1, st => (exec C Λ a st).bind fun x => match x.1 with
    | .normal => unroll C Λ a n (settleSt x.2)
    | e => .ret (e, x.2)
theorem unroll_keep {C : Cfg} {Λ : Loops} {a : Code} (hl : LoopsOk C Λ a) : ∀ (n : Nat) (st : St) (K : List (Nat × Bool)) (r : Ex × St), (unroll C Λ a n st).eval = some r → Inv st → Agree K (look st.heap) → Inv r.2 ∧ Agree K (look r.2.heap)
  | 0, st, K, r, h, hi, hK => by cases h
  | n + 1, st, K, r, h, hi, hK => by
    unfold unroll at h
    obtain ⟨x, h1, h⟩ := T.eval_bind_some h
    obtain ⟨h3, h4⟩ := exec_keep a st K x hl hi hK h1
    obtain ⟨e, s1⟩ := x
    cases e with
    | normal =>
      obtain ⟨k1, k2⟩ := settleSt_keep h3
      exact unroll_keep hl n _ K r h k1 fun i b hb => k2 i b (h4 i b hb)
    | exit i => simp only [T.eval, Option.some.injEq] at h; subst h; exact ⟨h3, h4⟩
    | ret => simp only [T.eval, Option.some.injEq] at h; subst h; exact ⟨h3, h4⟩
theorem unroll_rounds {C : Cfg} (hC : C.Ok) (hm : C.P.follows .mixedOrders = true) {Λ : Loops} {c : Code} (hl : LoopsOk C Λ c) {ν0 : Env} {n0 : Nat} {w0 : World} {F0 : Nat → Prop} {Q : Exit → Act → World → Prop} :
    ∀ (n : Nat) (st : St) (r : Ex × St) (ν : Env) (a : Act) (w : World), (unroll C Λ c n st).eval = some r → Says ν0 n0 w0 F0 ν st a w → (∀ ν' a' w', Says ν0 n0 w0 F0 ν' r.2 a' w' → Q r.1.to a' w') → Code.rounds C.P c Q n a w
  | 0, st, r, ν, a, w, h, hs, hq => by cases h
  | n + 1, st, r, ν, a, w, h, hs, hq => by
    unfold unroll at h
    obtain ⟨x, h1, h⟩ := T.eval_bind_some h
    show c.wp C.P (Exit.then (Code.rounds C.P c Q n) Q) a w
    refine exec_ok hC hm c st x _ ν a w hl h1 hs ?_
    intro ν' a' w' hs'
    obtain ⟨e, s1⟩ := x
    cases e with
    | normal =>
      obtain ⟨ν2, hs2⟩ := settleSt_says hs'
      exact unroll_rounds hC hm hl n _ r ν2 a' w' h hs2 hq
    | exit i => simp only [T.eval, Option.some.injEq] at h; subst h; exact hq ν' a' w' hs'
    | ret => simp only [T.eval, Option.some.injEq] at h; subst h; exact hq ν' a' w' hs'
theorem unroll_ok {C : Cfg} (hC : C.Ok) (hm : C.P.follows .mixedOrders = true) {Λ : Loops} {c : Code} (hl : LoopsOk C Λ c) (n : Nat) : LoopOk C c (unroll C Λ c n) :=
  ⟨fun st r h ν0 n0 w0 F0 ν a w Q hs hq => wp_loop_rounds n (unroll_rounds hC hm hl n st r ν a w h hs hq),
   fun st r h hi => by
    refine ⟨(unroll_keep hl n st [] r h hi fun i b hb => by cases hb).1, fun i c' hc => ?_⟩
    refine (unroll_keep hl n st [(i, c')] r h hi ?_).2 i c' (by simp [known])
    intro j b hj
    simp only [known] at hj
    by_cases q : (i == j) = true
    · simp only [q, if_true, Option.some.injEq] at hj
      simp at q; subst q; subst hj; exact hc
    · simp only [q] at hj; simp at hj⟩
/-- every loop at most n rounds, d of them one in another -/
def rounds (C : Cfg) (n : Nat) : Nat → Loops
  | 0 => noLoops
  | d + 1 => fun a => some (unroll C (rounds C n d) a n)
theorem rounds_ok {C : Cfg} (hC : C.Ok) (hm : C.P.follows .mixedOrders = true) (n : Nat) : ∀ (d : Nat) (c : Code), LoopsOk C (rounds C n d) c
  | 0, c => noLoops_ok c
  | d + 1, .seq a b => ⟨rounds_ok hC hm n (d + 1) a, rounds_ok hC hm n (d + 1) b⟩
  | d + 1, .cond _ a b => ⟨rounds_ok hC hm n (d + 1) a, rounds_ok hC hm n (d + 1) b⟩
  | d + 1, .block _ a => rounds_ok hC hm n (d + 1) a
  | d + 1, .loop a => fun sp h => by
    simp only [rounds, Option.some.injEq] at h
    subst h
    exact unroll_ok hC hm (rounds_ok hC hm n d a) n
  | d + 1, .skip => trivial
  | d + 1, .region _ _ _ => trivial
  | d + 1, .exit _ => trivial
  | d + 1, .ret => trivial
  | d + 1, .rangeFunc .. => trivial
  | d + 1, .scope _ => trivial
  | d + 1, .label _ => trivial
  | d + 1, .goto _ => trivial
  | d + 1, .refuse _ => trivial
theorem execS_rounds {C : Cfg} (hC : C.Ok) (hm : C.P.follows .mixedOrders = true) (n d : Nat) {f : Nat} {fn : Func} (hf : C.P.funcs[f]? = some fn) (hb : fn.body.isSome = true) (hnm : (fn.name == "runtime.NumGoroutine") = false) :
    SpecOk C.P f (execS C (rounds C n d) f) := by
  obtain ⟨c, hc⟩ := Option.isSome_iff_exists.1 hb
  exact execS_ok hC hm hf hc hnm (rounds_ok hC hm n d c)
end Go.Eng
