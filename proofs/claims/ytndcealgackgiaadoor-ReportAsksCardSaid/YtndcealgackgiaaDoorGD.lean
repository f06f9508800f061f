import Derived.LoopN
import Derived.IntWalk
import Derived.Test.YtndcealgackgiaaDoorGK
/- The machine, third part: loops of few rounds, unrolled. No program is named here. -/
namespace Go.Eng
set_option linter.unusedSectionVars false
variable [Go.Eng.GW]
open Go.RowKit
set_option linter.unusedVariables false
set_option linter.unusedSimpArgs false

theorem seqOps_keep {C : Cfg} {ops : List Oper} : ∀ (l : List Oper) (st : St) (K : List (Nat × Bool)) (r : St), Inv st → Agree K (look st.heap) → (seqOps C ops l st).eval = some r → Inv r ∧ Agree K (look r.heap)
  | [], st, K, r, hi, hK, h => by
    simp only [seqOps, T.eval, Option.some.injEq] at h
    subst h; exact ⟨hi, hK⟩
  | o :: l, st, K, r, hi, hK, h => by
    unfold seqOps at h
    obtain ⟨⟨v, u⟩, h1, h⟩ := T.eval_bind_some h
    simp only at h
    by_cases hc : (partsOk st.size (getT st.tmps) o && chk (lt (nxt st.next u)) (look st.heap) st.next v u) = true
    · rw [if_pos hc] at h
      simp only [Bool.and_eq_true] at hc
      refine seqOps_keep l _ K r ?_ ?_ h
      · refine push_lt hc.2 (fun _ _ h => h) hi (le_nxt _ _) ?_
        intro hne
        unfold nxt
        have : u.isEmpty = false := by cases hx : u <;> simp_all
        simp [this]
      · exact agree_push hK hc.2 (fun _ _ h => h) hi
    · rw [if_neg hc] at h; cases h
theorem drawOps_keep {C : Cfg} {ops : List Oper} {ms : List Nat} {base : Nat} : ∀ (l : List Oper) (j : Nat) (st : St) (K : List (Nat × Bool)) (r : St × List Rec), (∀ i b, look st.heap i = some b → i < base + strd base * j) → Agree K (look st.heap) →
    (drawOps C ops ms base j l st).eval = some r → (∀ i b, look r.1.heap i = some b → i < base + strd base * (j + l.length)) ∧ Agree K (look r.1.heap)
  | [], j, st, K, r, hi, hK, h => by
    simp only [drawOps, T.eval, Option.some.injEq] at h
    subst h; exact ⟨hi, hK⟩
  | o :: l, j, st, K, r, hi, hK, h => by
    unfold drawOps at h
    obtain ⟨x, h1, h⟩ := T.eval_bind_some h
    by_cases hc : (partsOk st.size (getT st.tmps) o && chk (allowed base (ms.getD j 0) j) (restr (needOf ops (getT st.tmps) (look st.heap) o) (look st.heap)) (base + strd base * j) x.1 x.2) = true
    · rw [if_pos hc] at h
      simp only [Bool.and_eq_true] at hc
      obtain ⟨y, h3, h⟩ := T.eval_bind_some h
      obtain ⟨i2, i3⟩ := drawOps_keep l (j + 1) ⟨setL st.tmps o.dst x.1, x.2 ++ st.heap, st.next, st.size⟩ K y (by
        refine push_lt hc.2 restr_sub hi (by rw [Nat.mul_succ]; omega) (fun _ => by rw [strd_step]; exact Nat.le_refl _)) (agree_push hK hc.2 restr_sub hi) h3
      simp only [T.eval, Option.some.injEq] at h
      subst h
      refine ⟨?_, i3⟩
      intro i b hb
      have := i2 i b hb
      simp only [List.length_cons] at *
      rw [show j + (l.length + 1) = j + 1 + l.length by omega]
      exact this
    · rw [if_neg hc] at h; cases h
theorem drawAll_keep {C : Cfg} {ops : List Oper} {st : St} {K : List (Nat × Bool)} {r : St} (hi : Inv st) (hK : Agree K (look st.heap)) (h : (drawAll C ops st).eval = some r) : Inv r ∧ Agree K (look r.heap) := by
  unfold drawAll at h
  split at h
  · obtain ⟨x, h1, h⟩ := T.eval_bind_some h
    obtain ⟨h3, h4⟩ := drawOps_keep ops 0 st K x (by intro i b hb; have := hi i b hb; simpa using this) hK h1
    split at h
    · simp only [T.eval, Option.some.injEq] at h
      subst h
      refine ⟨?_, h4⟩
      intro i b hb
      have := h3 i b hb
      simpa using this
    · cases h
  · cases h
theorem branch_eval {α : Type} {L : Look} {v : V} {x y : T α} {r : α} (h : (branchV L v x y).eval = some r) : x.eval = some r ∨ y.eval = some r := by
  have both : ∀ {i : Option Nat} {c : Bool}, (T.ite i c x y).eval = some r → x.eval = some r ∨ y.eval = some r := by
    intro i c h
    cases c
    · exact .inr h
    · exact .inl h
  unfold branchV at h
  split at h
  · exact .inl h
  · exact .inr h
  · exact both h
  · split at h
    · exact both h
    · cases h
  · cases h
theorem exec_keep {C : Cfg} {Λ : Loops} : ∀ (c : Code) (st : St) (K : List (Nat × Bool)) (r : Ex × St), LoopsOk C Λ c → Inv st → Agree K (look st.heap) → (exec C Λ c st).eval = some r → Inv r.2 ∧ Agree K (look r.2.heap)
  | .skip, st, K, r, _, hi, hK, h => by simp only [exec, T.eval, Option.some.injEq] at h; subst h; exact ⟨hi, hK⟩
  | .exit _, st, K, r, _, hi, hK, h => by simp only [exec, T.eval, Option.some.injEq] at h; subst h; exact ⟨hi, hK⟩
  | .ret, st, K, r, _, hi, hK, h => by simp only [exec, T.eval, Option.some.injEq] at h; subst h; exact ⟨hi, hK⟩
  | .region id ops draw, st, K, r, _, hi, hK, h => by
    unfold exec at h
    obtain ⟨x, h1, h⟩ := T.eval_bind_some h
    simp only [T.eval, Option.some.injEq] at h
    subst h
    cases draw with
    | true => exact drawAll_keep hi hK h1
    | false => exact seqOps_keep _ _ _ _ hi hK h1
  | .seq a b, st, K, r, hl, hi, hK, h => by
    unfold exec at h
    obtain ⟨x, h1, h⟩ := T.eval_bind_some h
    obtain ⟨h3, h4⟩ := exec_keep a st K x hl.1 hi hK h1
    obtain ⟨e, s1⟩ := x
    cases e with
    | normal => exact exec_keep b s1 K r hl.2 h3 h4 h
    | exit i => simp only [T.eval, Option.some.injEq] at h; subst h; exact ⟨h3, h4⟩
    | ret => simp only [T.eval, Option.some.injEq] at h; subst h; exact ⟨h3, h4⟩
  | .block id a, st, K, r, hl, hi, hK, h => by
    unfold exec at h
    obtain ⟨x, h1, h⟩ := T.eval_bind_some h
    obtain ⟨h3, h4⟩ := exec_keep a st K x hl hi hK h1
    obtain ⟨e, s1⟩ := x
    cases e with
    | normal => simp only [T.eval, Option.some.injEq] at h; subst h; exact ⟨h3, h4⟩
    | exit i =>
      simp only at h
      split at h
      · simp only [T.eval, Option.some.injEq] at h; subst h; exact ⟨h3, h4⟩
      · simp only [T.eval, Option.some.injEq] at h; subst h; exact ⟨h3, h4⟩
    | ret => simp only [T.eval, Option.some.injEq] at h; subst h; exact ⟨h3, h4⟩
  | .cond c a b, st, K, r, hl, hi, hK, h => by
    unfold exec at h
    rcases branch_eval h with h | h
    · exact exec_keep a st K r hl.1 hi hK h
    · exact exec_keep b st K r hl.2 hi hK h
  | .loop a, st, K, r, hl, hi, hK, h => by
    unfold exec at h
    split at h
    · rename_i sp hsp
      rw [T.eval_strip] at h
      obtain ⟨k1, k2⟩ := (hl sp hsp).keep st r h hi
      exact ⟨k1, fun i b hb => k2 i b (hK i b hb)⟩
    · cases h
  | .rangeFunc .., st, K, r, _, hi, hK, h => by cases h
  | .scope _, st, K, r, _, hi, hK, h => by cases h
  | .label _, st, K, r, _, hi, hK, h => by cases h
  | .goto _, st, K, r, _, hi, hK, h => by cases h
  | .refuse _, st, K, r, _, hi, hK, h => by cases h

/-- a loop's rounds, one after another, at most n -/
def unroll (C : Cfg) (Λ : Loops) (a : Code) : Nat → LSpec
  | 0, _ => .fail
  | n + 1, st => (exec C Λ a st).bind fun x => match x.1 with
    | .normal => unroll C Λ a n (settleSt x.2)
    | e => .ret (e, x.2)
theorem unroll_keep {C : Cfg} {Λ : Loops} {a : Code} (hl : LoopsOk C Λ a) : ∀ (n : Nat) (st : St) (K : List (Nat × Bool)) (r : Ex × St), (unroll C Λ a n st).eval = some r → Inv st → Agree K (look st.heap) → Inv r.2 ∧ Agree K (look r.2.heap)
  | 0, st, K, r, h, hi, hK => by cases h
  | n + 1, st, K, r, h, hi, hK => by
    unfold unroll at h
    obtain ⟨x, h1, h⟩ := T.eval_bind_some h
    obtain ⟨h3, h4⟩ := exec_keep a st K x hl hi hK h1
    obtain ⟨e, s1⟩ := x
    cases e with
    | normal =>
      obtain ⟨k1, k2⟩ := settleSt_keep h3
      exact unroll_keep hl n _ K r h k1 fun i b hb => k2 i b (h4 i b hb)
    | exit i => simp only [T.eval, Option.some.injEq] at h; subst h; exact ⟨h3, h4⟩
    | ret => simp only [T.eval, Option.some.injEq] at h; subst h; exact ⟨h3, h4⟩
theorem unroll_rounds {C : Cfg} (hC : C.Ok) (hm : C.P.follows .mixedOrders = true) {Λ : Loops} {c : Code} (hl : LoopsOk C Λ c) {ν0 : Env} {n0 : Nat} {w0 : World} {F0 : Nat → Prop} {Q : Exit → Act → World → Prop} :
    ∀ (n : Nat) (st : St) (r : Ex × St) (ν : Env) (a : Act) (w : World), (unroll C Λ c n st).eval = some r → Says ν0 n0 w0 F0 ν st a w → (∀ ν' a' w', Says ν0 n0 w0 F0 ν' r.2 a' w' → Q r.1.to a' w') → Code.rounds C.P c Q n a w
  | 0, st, r, ν, a, w, h, hs, hq => by cases h
  | n + 1, st, r, ν, a, w, h, hs, hq => by
    unfold unroll at h
    obtain ⟨x, h1, h⟩ := T.eval_bind_some h
    show c.wp C.P (Exit.then (Code.rounds C.P c Q n) Q) a w
    refine exec_ok hC hm c st x _ ν a w hl h1 hs ?_
    intro ν' a' w' hs'
    obtain ⟨e, s1⟩ := x
    cases e with
    | normal =>
      obtain ⟨ν2, hs2⟩ := settleSt_says hs'
      exact unroll_rounds hC hm hl n _ r ν2 a' w' h hs2 hq
    | exit i => simp only [T.eval, Option.some.injEq] at h; subst h; exact hq ν' a' w' hs'
    | ret => simp only [T.eval, Option.some.injEq] at h; subst h; exact hq ν' a' w' hs'
theorem unroll_ok {C : Cfg} (hC : C.Ok) (hm : C.P.follows .mixedOrders = true) {Λ : Loops} {c : Code} (hl : LoopsOk C Λ c) (n : Nat) : LoopOk C c (unroll C Λ c n) :=
  ⟨fun st r h ν0 n0 w0 F0 ν a w Q hs hq => wp_loop_rounds n (unroll_rounds hC hm hl n st r ν a w h hs hq),
   fun st r h hi => by
    refine ⟨(unroll_keep hl n st [] r h hi fun i b hb => by cases hb).1, fun i c' hc => ?_⟩
    refine (unroll_keep hl n st [(i, c')] r h hi ?_).2 i c' (by simp [known])
    intro j b hj
    simp only [known] at hj
    by_cases q : (i == j) = true
    · simp only [q, if_true, Option.some.injEq] at hj
      simp at q; subst q; subst hj; exact hc
    · simp only [q] at hj; simp at hj⟩
/-- every loop at most n rounds, d of them one in another -/
def rounds (C : Cfg) (n : Nat) : Nat → Loops
  | 0 => noLoops
  | d + 1 => fun a => some (unroll C (rounds C n d) a n)
theorem rounds_ok {C : Cfg} (hC : C.Ok) (hm : C.P.follows .mixedOrders = true) (n : Nat) : ∀ (d : Nat) (c : Code), LoopsOk C (rounds C n d) c
  | 0, c => noLoops_ok c
  | d + 1, .seq a b => ⟨rounds_ok hC hm n (d + 1) a, rounds_ok hC hm n (d + 1) b⟩
  | d + 1, .cond _ a b => ⟨rounds_ok hC hm n (d + 1) a, rounds_ok hC hm n (d + 1) b⟩
  | d + 1, .block _ a => rounds_ok hC hm n (d + 1) a
  | d + 1, .loop a => fun sp h => by
    simp only [rounds, Option.some.injEq] at h
    subst h
    exact unroll_ok hC hm (rounds_ok hC hm n d a) n
  | d + 1, .skip => trivial
  | d + 1, .region _ _ _ => trivial
  | d + 1, .exit _ => trivial
  | d + 1, .ret => trivial
  | d + 1, .rangeFunc .. => trivial
  | d + 1, .scope _ => trivial
  | d + 1, .label _ => trivial
  | d + 1, .goto _ => trivial
  | d + 1, .refuse _ => trivial
theorem execS_rounds {C : Cfg} (hC : C.Ok) (hm : C.P.follows .mixedOrders = true) (n d : Nat) {f : Nat} {fn : Func} (hf : C.P.funcs[f]? = some fn) (hb : fn.body.isSome = true) (hnm : (fn.name == "runtime.NumGoroutine") = false) :
    SpecOk C.P f (execS C (rounds C n d) f) := by
  obtain ⟨c, hc⟩ := Option.isSome_iff_exists.1 hb
  exact execS_ok hC hm hf hc hnm (rounds_ok hC hm n d c)
end Go.Eng

/- Trees that answer true; numbers in 64 bits. No program is named here. -/
namespace Go.Eng
set_option linter.unusedSectionVars false
variable [Go.Eng.GW]
open Go.RowKit
set_option linter.unusedVariables false

/-- the tree without its truths' names -/
def T.anon {α : Type} : T α → T α
  | .ite _ c x y => .ite none c x.anon y.anon
  | .ret v => .ret v
  | .fail => .fail
theorem T.eval_anon {α : Type} : ∀ t : T α, t.anon.eval = t.eval
  | .ite _ c x y => by
    show (bif c then x.anon.eval else y.anon.eval) = (bif c then x.eval else y.eval)
    rw [T.eval_anon x, T.eval_anon y]
  | .ret _ => rfl
  | .fail => rfl
/-- the tree answers true -/
def T.yes (t : T V) : Prop := t.eval = some .tt ∨ t.eval = some (.s (.bool true))
theorem yes_anon {t : T V} (h : t.anon.yes) : t.yes := by
  unfold T.yes at *; rwa [T.eval_anon] at h
theorem yes_tt : T.yes (.ret .tt) := .inl rfl
theorem yes_ret {b : Bool} (h : b = true) : T.yes (.ret (.s (.bool b))) := by rw [h]; exact .inr rfl
theorem yes_ite {i : Option Nat} {c : Bool} {x y : T V} (h1 : c = true → x.yes) (h2 : c = false → y.yes) : T.yes (.ite i c x y) := by
  cases c
  · exact h2 rfl
  · exact h1 rfl
theorem yes_then {i : Option Nat} {c : Bool} {x y : T V} (hc : c = true) (h : x.yes) : T.yes (.ite i c x y) := by rw [hc]; exact h
theorem yes_else {i : Option Nat} {c : Bool} {x y : T V} (hc : c = false) (h : y.yes) : T.yes (.ite i c x y) := by rw [hc]; exact h
theorem law_yes {P : Program} {f : Nat} {sp : Spec} (h : SpecOk P f sp) {args : List V} (hfl : flatL args = true) (hv : (sp args).yes) (w : World) (hG : Glob w := by exact Glob.any _) :
    Calls P f (denL nu0 args).toArray w fun e w' => e = .returned (.bool true) ∧ Below w.heap.size w w' := by
  rcases hv with hv | hv
  · exact law_calls h hfl hv (.inl rfl) w hG
  · exact law_calls h hfl hv (.inr rfl) w hG
theorem bif_and (a b : Bool) : (bif a then b else false) = (a && b) := by cases a <;> rfl
theorem bif_or (a b : Bool) : (bif a then true else b) = (a || b) := by cases a <;> rfl
theorem wf64 {n : Int} (h : (Lit.int .i64 n).wf = true) : -9223372036854775808 ≤ n ∧ n ≤ 9223372036854775807 := by
  simpa [Lit.wf, IntKind.min, IntKind.max, IntKind.signed, IntKind.bits] using h
theorem wrap64_in {n : Int} (h1 : -9223372036854775808 ≤ n) (h2 : n ≤ 9223372036854775807) : IntKind.i64.wrap n = n := IntWalk.i64_in n ⟨h1, h2⟩
theorem wrapu64 (n : Int) : IntKind.u64.wrap n = n % 18446744073709551616 := by
  simp [IntKind.wrap, IntKind.signed, IntKind.bits]
/-- a number of m kinds out of any -/
theorem modU {n m : Int} (hm : 0 < m) (h2 : m ≤ 9223372036854775807) : IntKind.i64.wrap (Int.tmod (IntKind.u64.wrap n) m) = (n % 18446744073709551616) % m := by
  rw [wrapu64, Int.tmod_eq_emod_of_nonneg (Int.emod_nonneg _ (by decide))]
  have h3 := Int.emod_nonneg (n % 18446744073709551616) (b := m) (by omega)
  have h4 := Int.emod_lt_of_pos (n % 18446744073709551616) hm
  exact wrap64_in (by omega) (by omega)
theorem modU_range (n : Int) {m : Int} (hm : 0 < m) : 0 ≤ (n % 18446744073709551616) % m ∧ (n % 18446744073709551616) % m < m :=
  ⟨Int.emod_nonneg _ (by omega), Int.emod_lt_of_pos _ hm⟩
end Go.Eng

/- The machine, fourth part: loops by families of states: what is kept from round to round is told, all else forgotten. No program is named here. -/
namespace Go.Eng
set_option linter.unusedSectionVars false
variable [Go.Eng.GW]
open Go.RowKit
set_option linter.unusedVariables false
set_option linter.unusedSimpArgs false

/-- a value kept: what is plain read, references as they are -/
def wkV (L : Look) (m : Nat) (v : V) : V :=
  match v with
  | .ptr i off => if Nat.blt i m then .ptr i off else .junk
  | .sl i off len cap => if Nat.blt i m then .sl i off len cap else .junk
  | .pr i sz row fld => if Nat.blt i m then .pr i sz row fld else .junk
  | .sub i sz off len => if Nat.blt i m then .sub i sz off len else .junk
  | .iface t (.ptr i off) => if Nat.blt i m then .iface t (.ptr i off) else .junk
  | v => if flat (detach L v) then detach L v else .junk
theorem wkV_den {ν : Env} {L : Look} {w : World} (hr : Rel ν L w) {m : Nat} {v : V} (h : (wkV L m v).isJunk = false) : (wkV L m v).den ν = v.den ν := by
  unfold wkV at h ⊢
  split
  · split
    · rfl
    · rename_i hn; simp [hn, V.isJunk] at h
  · split
    · rfl
    · rename_i hn; simp [hn, V.isJunk] at h
  · split
    · rfl
    · rename_i hn; simp [hn, V.isJunk] at h
  · split
    · rfl
    · rename_i hn; simp [hn, V.isJunk] at h
  · split
    · rfl
    · rename_i hn; simp [hn, V.isJunk] at h
  · split
    · rename_i hf; exact detach_den hr _ hf
    · rename_i hn; simp [hn, V.isJunk] at h
theorem wkV_ok {L : Look} {m : Nat} {v : V} (h : (wkV L m v).isJunk = false) : (wkV L m v).ok (lt m) = true := by
  unfold wkV at h ⊢
  split
  · split
    · rename_i hb; exact hb
    · rename_i hn; simp [hn, V.isJunk] at h
  · split
    · rename_i hb; exact hb
    · rename_i hn; simp [hn, V.isJunk] at h
  · split
    · rename_i hb; exact hb
    · rename_i hn; simp [hn, V.isJunk] at h
  · split
    · rename_i hb; exact hb
    · rename_i hn; simp [hn, V.isJunk] at h
  · split
    · rename_i hb; exact hb
    · rename_i hn; simp [hn, V.isJunk] at h
  · split
    · rename_i hf; exact V.ok_mono (fun i hi => by cases hi) _ hf
    · rename_i hn; simp [hn, V.isJunk] at h
theorem wkV_junk {L : Look} {m : Nat} {v : V} (h : (wkV L m v).isJunk = false) : v.isJunk = false := by
  cases v <;> first | rfl | (simp [wkV, detach, flat, V.ok, V.isJunk] at h)

def wkTmps (L : Look) (m : Nat) (l : Tm) : List Nat → Tm
  | [] => []
  | t :: r => (t, wkV L m (getT l t)) :: wkTmps L m l r
theorem wkTmps_get {L : Look} {m : Nat} {l : Tm} : ∀ (K : List Nat) (t : Nat), getT (wkTmps L m l K) t = .junk ∨ getT (wkTmps L m l K) t = wkV L m (getT l t)
  | [], t => .inl rfl
  | k :: r, t => by
    simp only [wkTmps, getT]
    by_cases e : (k == t) = true
    · simp only [e, if_true]; simp at e; subst e; exact .inr rfl
    · simp only [e]; exact wkTmps_get r t
def wkHeap (h : Heap) (m : Nat) : List Nat → Option Heap
  | [] => some []
  | i :: r => match look h i with
    | some b => if b.ok (lt m) && Nat.blt i m then (wkHeap h m r).map ((i, b) :: ·) else none
    | none => none
theorem wkHeap_look {h : Heap} {m : Nat} : ∀ {K : List Nat} {h' : Heap}, wkHeap h m K = some h' → ∀ i b, look h' i = some b → look h i = some b ∧ b.ok (lt m) = true ∧ i < m
  | [], h', e, i, b, hb => by
    simp only [wkHeap, Option.some.injEq] at e; subst e; cases hb
  | k :: r, h', e, i, b, hb => by
    unfold wkHeap at e
    split at e
    · rename_i bk hk
      split at e
      · rename_i hc
        simp only [Bool.and_eq_true] at hc
        obtain ⟨h1, e1, rfl⟩ := Option.map_eq_some_iff.1 e
        simp only [look] at hb
        by_cases q : (k == i) = true
        · simp only [q, if_true, Option.some.injEq] at hb
          simp at q; subst q; subst hb
          exact ⟨hk, hc.1, by simpa using hc.2⟩
        · simp only [q] at hb
          exact wkHeap_look e1 i b (by simpa using hb)
      · cases e
    · cases e
/-- a state with all forgotten but these slots and blocks; its next number is m -/
def wkSt (T0 H0 : List Nat) (m : Nat) (st : St) : T St :=
  opt (wkHeap st.heap m H0) fun h => .ret ⟨wkTmps (look st.heap) m st.tmps T0, h, m, st.size⟩
theorem wkSt_inv {T0 H0 : List Nat} {m : Nat} {st st' : St} (h : (wkSt T0 H0 m st).eval = some st') : Inv st' ∧ st'.next = m := by
  obtain ⟨hp, e, h⟩ := opt_eval h
  simp only [T.eval, Option.some.injEq] at h
  subst h
  exact ⟨fun i b hb => (wkHeap_look e i b hb).2.2, rfl⟩
theorem wkSt_says {ν0 : Env} {n0 : Nat} {w0 : World} {F0 : Nat → Prop} {ν : Env} {T0 H0 : List Nat} {m : Nat} {st st' : St} {a : Act} {w : World} (hs : Says ν0 n0 w0 F0 ν st a w) (hn : n0 ≤ m)
    (h : (wkSt T0 H0 m st).eval = some st') : Says ν0 n0 w0 F0 ν st' a w := by
  obtain ⟨hp, e, h⟩ := opt_eval h
  simp only [T.eval, Option.some.injEq] at h
  subst h
  have hl := wkHeap_look e
  have key : ∀ t, (getT (wkTmps (look st.heap) m st.tmps T0) t).isJunk = false → getT (wkTmps (look st.heap) m st.tmps T0) t = wkV (look st.heap) m (getT st.tmps t) ∧ (wkV (look st.heap) m (getT st.tmps t)).isJunk = false := by
    intro t ht
    rcases wkTmps_get T0 t (L := look st.heap) (m := m) (l := st.tmps) with q | q
    · rw [q] at ht; cases ht
    · rw [q] at ht; exact ⟨q, ht⟩
  refine ⟨⟨hs.1.size, ?_, ?_, hs.1.defers, hs.1.rel.sub fun i b hb => (hl i b hb).1, ?_, ?_, hs.1.prog, ?_, hs.1.base, hs.1.gl⟩, hn⟩
  · intro t ht
    exact hs.1.dom t (wkV_junk (key t ht).2)
  · intro t ht
    rw [(key t ht).1, wkV_den hs.1.rel (key t ht).2]
    exact hs.1.tmp t (wkV_junk (key t ht).2)
  · intro t ht
    rw [(key t ht).1]
    exact wkV_ok (key t ht).2
  · intro i b hb
    exact ⟨(hl i b hb).2.1, lt_iff.2 (hl i b hb).2.2⟩
  · intro i b hb ho
    exact hs.1.own i b (hl i b hb).1 ho

/-- one round, and what is kept of it -/
def roundT (C : Cfg) (Λ : Loops) (body : Code) (T0 H0 : List Nat) (m : Nat) (st : St) : T (Ex × St) :=
  (exec C Λ body st).bind fun x => (wkSt T0 H0 m x.2).bind fun s => .ret (x.1, s)
/-- where a round leads: to the next one's data, or out -/
inductive Way (α : Type) where
  | next (a : α) | out (e : Ex) (s : St)
def Way.at {α : Type} (F : α → St) : Way α → Ex × St
  | .next a => (.normal, F a)
  | .out e s => (e, s)
def Way.fair {α : Type} : Way α → Bool
  | .out .normal _ => false
  | _ => true
/-- rounds, one after another, at most n -/
def iter {α : Type} (step : α → T (Way α)) : Nat → α → T (Ex × St)
  | 0, _ => .fail
  | n + 1, a => (step a).bind fun x => match x with
    | .next a => iter step n a
    | .out .normal _ => .fail
    | .out e s => .ret (e, s)
/-- the rounds of a loop are those of its data -/
def FamOk (C : Cfg) (Λ : Loops) (body : Code) (T0 H0 : List Nat) (m : Nat) {α : Type} (F : α → St) (step : α → T (Way α)) : Prop :=
  ∀ a x, (step a).eval = some x → (roundT C Λ body T0 H0 m (F a)).eval = some (x.at F)
theorem FamOk.of_tree {C : Cfg} {Λ : Loops} {body : Code} {T0 H0 : List Nat} {m : Nat} {α : Type} {F : α → St} {step : α → T (Way α)}
    (h : ∀ a, (roundT C Λ body T0 H0 m (F a)).anon = ((step a).bind fun x => .ret (x.at F)).anon) : FamOk C Λ body T0 H0 m F step := by
  intro a x hx
  rw [← T.eval_anon, h, T.eval_anon, T.eval_bind, hx]
  rfl
theorem fam_rounds {C : Cfg} (hC : C.Ok) (hm : C.P.follows .mixedOrders = true) {Λ : Loops} {c : Code} (hl : LoopsOk C Λ c) {T0 H0 : List Nat} {m : Nat} {α : Type} {F : α → St} {step : α → T (Way α)} (hf : FamOk C Λ c T0 H0 m F step)
    {ν0 : Env} {n0 : Nat} {w0 : World} {F0 : Nat → Prop} (hn : n0 ≤ m) {Q : Exit → Act → World → Prop} :
    ∀ (n : Nat) (d : α) (r : Ex × St) (ν : Env) (a : Act) (w : World), (iter step n d).eval = some r → Says ν0 n0 w0 F0 ν (F d) a w → (∀ ν' a' w', Says ν0 n0 w0 F0 ν' r.2 a' w' → Q r.1.to a' w') → Code.rounds C.P c Q n a w
  | 0, d, r, ν, a, w, h, hs, hq => by cases h
  | n + 1, d, r, ν, a, w, h, hs, hq => by
    unfold iter at h
    obtain ⟨x, h1, h⟩ := T.eval_bind_some h
    obtain ⟨y, h2, h3⟩ := T.eval_bind_some (hf d x h1)
    obtain ⟨s, h4, h5⟩ := T.eval_bind_some h3
    simp only [T.eval, Option.some.injEq] at h5
    show c.wp C.P (Exit.then (Code.rounds C.P c Q n) Q) a w
    refine exec_ok hC hm c (F d) y _ ν a w hl h2 hs ?_
    intro ν' a' w' hs'
    have hs2 := wkSt_says hs' hn h4
    cases x with
    | next d' =>
      simp only [Way.at, Prod.mk.injEq] at h5
      obtain ⟨e1, rfl⟩ := h5
      rw [e1]
      exact fam_rounds hC hm hl hf hn n d' r ν' a' w' h hs2 hq
    | out e s' =>
      simp only [Way.at, Prod.mk.injEq] at h5
      obtain ⟨e1, rfl⟩ := h5
      rw [e1]
      cases e with
      | normal => cases h
      | exit i => simp only [T.eval, Option.some.injEq] at h; subst h; exact hq ν' a' w' hs2
      | ret => simp only [T.eval, Option.some.injEq] at h; subst h; exact hq ν' a' w' hs2

/-! #### the loop beside what it does not touch: the truths that are known -/
theorem Says.rebase {ν0 : Env} {n0 : Nat} {w0 : World} {F0 : Nat → Prop} {ν : Env} {st : St} {a : Act} {w : World} (h : Says ν0 n0 w0 F0 ν st a w) :
    Says ν st.next w (fun k => ∃ i b, look st.heap i = some b ∧ b.owned = true ∧ (ν i).fp k) ν st a w :=
  ⟨{ h.1 with
      prog := Prog.refl w _
      own := fun i b hb ho k hk => .inl ⟨i, b, hb, ho, hk⟩
      base := fun i hi => rfl
      gl := ⟨h.1.globW, fun k ⟨i, b, hb, ho, hk⟩ => h.1.globL.own i b hb ho k hk⟩ }, Nat.le_refl _⟩
theorem Says.back {ν0 : Env} {n0 : Nat} {w0 : World} {F0 F1 : Nat → Prop} {ν ν' : Env} {st st' : St} {a a' : Act} {w w' : World} {n : Nat} (h : Says ν0 n0 w0 F0 ν st a w) (hn : n0 ≤ n) (h' : Says ν n w F1 ν' st' a' w')
    (hF : ∀ k, F1 k → F0 k ∨ w0.heap.size ≤ k) : Says ν0 n0 w0 F0 ν' st' a' w' :=
  ⟨{ h'.1 with
      prog := h.1.prog.trans h'.1.prog (fun _ hk => hk) fun i hi hk => by
        rcases hF i hk with q | q
        · exact q
        · omega
      own := fun i b hb ho k hk => by
        rcases h'.1.own i b hb ho k hk with q | q
        · exact hF k q
        · exact .inr (Nat.le_trans h.1.prog.size q)
      base := fun i hi => (h'.1.base i (by omega)).trans (h.1.base i hi)
      gl := h.1.gl }, Nat.le_trans hn h'.2⟩
def onlyLeaves : Heap → Heap
  | [] => []
  | (i, .leaf b) :: r => (i, .leaf b) :: onlyLeaves r
  | _ :: r => onlyLeaves r
def leafOf (h : Heap) (i : Nat) : Option Bool :=
  match look h i with
  | some (.leaf c) => some c
  | _ => none
def lvs (h : Heap) : List Nat → Heap
  | [] => []
  | i :: r => match leafOf h i with
    | some c => (i, .leaf c) :: lvs h r
    | none => lvs h r
def ids (h : Heap) : List Nat := h.map (·.1)
theorem look_mem_ids {h : Heap} {i : Nat} {b : Blk} (e : look h i = some b) : i ∈ ids h := List.mem_map.2 ⟨_, mem_of_look e, rfl⟩
theorem leafOf_some {h : Heap} {i : Nat} {c : Bool} (e : leafOf h i = some c) : look h i = some (.leaf c) := by
  unfold leafOf at e
  split at e
  · simp only [Option.some.injEq] at e; subst e; assumption
  · cases e
theorem look_lvs {h : Heap} : ∀ {K : List Nat} {i : Nat}, (∀ c, look h i = some (.leaf c) → i ∈ K → look (lvs h K) i = some (.leaf c)) ∧ (∀ b, look (lvs h K) i = some b → look h i = some b ∧ ∃ c, b = .leaf c)
  | [], i => ⟨fun c _ hm => (by cases hm), fun b hb => (by cases hb)⟩
  | k :: r, i => by
    obtain ⟨ih1, ih2⟩ := look_lvs (h := h) (K := r) (i := i)
    unfold lvs
    cases hk : leafOf h k with
    | none =>
      refine ⟨fun c hc hm => ?_, ih2⟩
      rcases List.mem_cons.1 hm with rfl | hm
      · simp [leafOf, hc] at hk
      · exact ih1 c hc hm
    | some d =>
      have hd := leafOf_some hk
      by_cases q : (k == i) = true
      · have : k = i := by simpa using q
        subst this
        refine ⟨fun c hc _ => ?_, fun b hb => ?_⟩
        · rw [hc] at hd; cases hd; simp [look]
        · simp only [look, q, if_true, Option.some.injEq] at hb; subst hb; exact ⟨hd, d, rfl⟩
      · have qf : (k == i) = false := by simpa using q
        refine ⟨fun c hc hm => ?_, fun b hb => ?_⟩
        · simp only [look, qf]
          rcases List.mem_cons.1 hm with rfl | hm
          · simp at qf
          · simpa using ih1 c hc hm
        · simp only [look, qf] at hb
          exact ih2 b (by simpa using hb)
/-- the truths that were known ahead, behind a loop -/
def withLeaves (h : Heap) (st : St) : St := ⟨st.tmps, st.heap ++ lvs h (ids h), st.next, st.size⟩
def apartB (h : Heap) (H0 : List Nat) : Bool := (ids h).all fun i => match leafOf h i with | some _ => !H0.contains i | none => true
theorem withLeaves_says {ν : Env} {n : Nat} {w : World} {F1 : Nat → Prop} {ν' : Env} {h : Heap} {st' : St} {a' : Act} {w' : World} (hlt : ∀ i b, look h i = some b → i < n) (hle : ∀ i c, look h i = some (.leaf c) → (ν i).core.cond = c)
    (h' : Says ν n w F1 ν' st' a' w') (hn : n ≤ st'.next) (hap : ∀ i c, look h i = some (.leaf c) → look st'.heap i = none) : ∃ ν'', Says ν n w F1 ν'' (withLeaves h st') a' w' := by
  let g : Nat → Option Bool := fun i => match look st'.heap i with | some _ => none | none => leafOf h i
  let ν'' : Env := fun i => match g i with | some _ => { core := (ν' i).core, fp := fun _ => False } | none => ν' i
  have hc : ∀ i, (ν'' i).core = (ν' i).core := by
    intro i; simp only [ν'']; split <;> rfl
  have hsame : ∀ i b, look st'.heap i = some b → ν'' i = ν' i := by
    intro i b hb; simp only [ν'', g, hb]
  have hleaf : ∀ i c, look h i = some (.leaf c) → look st'.heap i = none → (ν'' i).fp = fun _ => False := by
    intro i c hc hn; simp only [ν'', g, hn, leafOf, hc]
  have hlook : ∀ i b, look (withLeaves h st').heap i = some b → look st'.heap i = some b ∨ (look st'.heap i = none ∧ look h i = some b ∧ ∃ c, b = .leaf c) := by
    intro i b hb
    simp only [withLeaves, look_append, over] at hb
    cases e : look st'.heap i with
    | some b' => rw [e] at hb; exact .inl hb
    | none => rw [e] at hb; exact .inr ⟨rfl, (look_lvs.2 b hb).1, (look_lvs.2 b hb).2⟩
  refine ⟨ν'', ⟨h'.1.size, h'.1.dom, ?_, h'.1.defers, ?_, h'.1.okT, ?_, h'.1.prog, ?_, ?_, h'.1.gl⟩, h'.2⟩
  · intro t ht
    rw [h'.1.tmp t ht]
    exact V.den_congr (p := fun _ => true) (fun i _ => (hc i).symm) _ (V.ok_mono (fun _ _ => rfl) _ (h'.1.okT t ht))
  · refine ⟨fun i b hb => ?_, fun i j bi bj ne hi hj ho k hk hk' => ?_⟩
    · rcases hlook i b hb with q | ⟨q1, q2, c, rfl⟩
      · rw [hsame i b q]
        exact Blk.den_congr (p := lt st'.next) (fun j _ => (hc j).symm) rfl rfl (h'.1.okH i b q).1 (h'.1.rel.den i b q)
      · refine ⟨?_, fun k hk => ?_⟩
        · rw [hc]
          have := h'.1.base i (hlt i _ q2)
          rw [this]; exact hle i c q2
        · rw [hleaf i c q2 q1] at hk; exact hk
    · rcases hlook i bi hi with q | ⟨q1, q2, c, rfl⟩
      · rcases hlook j bj hj with r | ⟨r1, r2, c, rfl⟩
        · rw [hsame i bi q] at hk; rw [hsame j bj r] at hk'
          exact h'.1.rel.dis i j bi bj ne q r ho k hk hk'
        · rw [hleaf j c r2 r1] at hk'; exact hk'
      · rw [hleaf i c q2 q1] at hk; exact hk
  · intro i b hb
    rcases hlook i b hb with q | ⟨q1, q2, c, rfl⟩
    · exact h'.1.okH i b q
    · exact ⟨rfl, lt_iff.2 (Nat.lt_of_lt_of_le (hlt i _ q2) hn)⟩
  · intro i b hb ho k hk
    rcases hlook i b hb with q | ⟨q1, q2, c, rfl⟩
    · rw [hsame i b q] at hk; exact h'.1.own i b q ho k hk
    · cases ho
  · intro i hi
    rw [hc]; exact h'.1.base i hi
/-- a handler: the state ahead is read, what comes of it told -/
def famL {α : Type} (T0 H0 : List Nat) (m sz : Nat) (dec : St → Option α) (res : α → T (Ex × St)) : LSpec := fun st =>
  (wkSt T0 H0 m st).bind fun s => if Nat.beq st.size sz && Nat.ble st.next m && apartB st.heap H0 then opt (dec s) fun d => (res d).bind fun r => .ret (r.1, withLeaves st.heap r.2) else .fail
/-- the blocks of a state are some of these -/
def blocksIn (H0 : List Nat) (st : St) : Prop := ∀ i b, look st.heap i = some b → i ∈ H0
theorem iter_blocks {C : Cfg} {Λ : Loops} {c : Code} {T0 H0 : List Nat} {m : Nat} {α : Type} {F : α → St} {step : α → T (Way α)} (hf : FamOk C Λ c T0 H0 m F step) :
    ∀ (n : Nat) (d : α) (r : Ex × St), (iter step n d).eval = some r → ∃ st, (wkSt T0 H0 m st).eval = some r.2
  | 0, d, r, h => by cases h
  | n + 1, d, r, h => by
    unfold iter at h
    obtain ⟨x, h1, h⟩ := T.eval_bind_some h
    cases x with
    | next d' => exact iter_blocks hf n d' r h
    | out e s =>
      obtain ⟨y, h2, h3⟩ := T.eval_bind_some (hf d _ h1)
      obtain ⟨s', h4, h5⟩ := T.eval_bind_some h3
      simp only [T.eval, Option.some.injEq, Way.at, Prod.mk.injEq] at h5
      obtain ⟨e1, rfl⟩ := h5
      cases e with
      | normal => cases h
      | exit i => simp only [T.eval, Option.some.injEq] at h; subst h; exact ⟨_, h4⟩
      | ret => simp only [T.eval, Option.some.injEq] at h; subst h; exact ⟨_, h4⟩
theorem wkHeap_mem {h : Heap} {m : Nat} : ∀ {K : List Nat} {h' : Heap}, wkHeap h m K = some h' → ∀ i b, look h' i = some b → i ∈ K
  | [], h', e, i, b, hb => by
    simp only [wkHeap, Option.some.injEq] at e; subst e; cases hb
  | k :: r, h', e, i, b, hb => by
    unfold wkHeap at e
    split at e
    · split at e
      · obtain ⟨h1, e1, rfl⟩ := Option.map_eq_some_iff.1 e
        simp only [look] at hb
        by_cases q : (k == i) = true
        · simp at q; subst q; exact List.mem_cons_self
        · simp only [q] at hb
          exact List.mem_cons_of_mem _ (wkHeap_mem e1 i b (by simpa using hb))
      · cases e
    · cases e
theorem wkSt_mem {T0 H0 : List Nat} {m : Nat} {st st' : St} (h : (wkSt T0 H0 m st).eval = some st') : ∀ i b, look st'.heap i = some b → i ∈ H0 := by
  obtain ⟨hp, e, h⟩ := opt_eval h
  simp only [T.eval, Option.some.injEq] at h
  subst h
  exact wkHeap_mem e
theorem apartB_of {h : Heap} {H0 : List Nat} (ha : apartB h H0 = true) {i : Nat} {c : Bool} (hc : look h i = some (.leaf c)) : i ∉ H0 := by
  have := List.all_eq_true.1 ha i (look_mem_ids hc)
  simp only [leafOf, hc] at this
  simpa using this
theorem famL_ok {C : Cfg} (hC : C.Ok) (hm : C.P.follows .mixedOrders = true) {Λ : Loops} {c : Code} (hl : LoopsOk C Λ c) {T0 H0 : List Nat} {m sz : Nat} {α : Type} {F : α → St} {step : α → T (Way α)} (hf : FamOk C Λ c T0 H0 m F step)
    {dec : St → Option α} {res : α → T (Ex × St)} (hd : ∀ s d, s.next = m → s.size = sz → dec s = some d → (∃ st, (wkSt T0 H0 m st).eval = some s) → s = F d) (hr : ∀ d r, (res d).eval = some r → ∃ n, (iter step n d).eval = some r) :
    LoopOk C c (famL T0 H0 m sz dec res) := by
  have open' : ∀ (st : St) (r : Ex × St), (famL T0 H0 m sz dec res st).eval = some r → ∃ s d r0 n, (wkSt T0 H0 m st).eval = some s ∧ st.size = sz ∧ st.next ≤ m ∧ apartB st.heap H0 = true ∧ s = F d ∧ (iter step n d).eval = some r0 ∧ r = (r0.1, withLeaves st.heap r0.2) := by
    intro st r h
    obtain ⟨s, h1, h⟩ := T.eval_bind_some h
    split at h
    · rename_i hc
      simp only [Bool.and_eq_true] at hc
      obtain ⟨d, h2, h⟩ := opt_eval h
      obtain ⟨r0, h3, h⟩ := T.eval_bind_some h
      simp only [T.eval, Option.some.injEq] at h
      obtain ⟨n, hn⟩ := hr d r0 h3
      have hsz : s.size = sz := by
        obtain ⟨hp, e, h1'⟩ := opt_eval h1
        simp only [T.eval, Option.some.injEq] at h1'
        subst h1'
        exact Nat.eq_of_beq_eq_true hc.1.1
      exact ⟨s, d, r0, n, h1, Nat.eq_of_beq_eq_true hc.1.1, Nat.le_of_ble_eq_true hc.1.2, hc.2, hd s d (wkSt_inv h1).2 hsz h2 ⟨_, h1⟩, hn, h.symm⟩
    · cases h
  refine ⟨fun st r h ν0 n0 w0 F0 ν a w Q hs hq => ?_, fun st r h hi => ?_⟩
  · obtain ⟨s, d, r0, n, h1, h2, h3, h4, rfl, h5, rfl⟩ := open' st r h
    have hsr := hs.rebase
    have hs1 := wkSt_says hsr h3 h1
    refine wp_loop_rounds n (fam_rounds hC hm hl hf h3 n d r0 ν a w h5 hs1 ?_)
    intro ν' a' w' hs'
    obtain ⟨q, hq1⟩ := iter_blocks hf n d r0 h5
    obtain ⟨ν'', hs''⟩ := withLeaves_says (h := st.heap) (fun i b hb => lt_iff.1 (hs.1.okH i b hb).2) (fun i c hc => (hs.1.rel.den i _ hc).1) hs' (by rw [(wkSt_inv hq1).2]; exact h3) (fun i c hc => by
      cases e : look r0.2.heap i with
      | none => rfl
      | some b => exact absurd (wkSt_mem hq1 i b e) (apartB_of h4 hc))
    refine hq ν'' a' w' (hs.back hs.2 hs'' ?_)
    rintro k ⟨i, b, hb, ho, hk⟩
    exact hs.1.own i b hb ho k hk
  · obtain ⟨s, d, r0, n, h1, h2, h3, h4, rfl, h5, rfl⟩ := open' st r h
    obtain ⟨q, hq1⟩ := iter_blocks hf n d r0 h5
    refine ⟨fun i b hb => ?_, fun i c hc => ?_⟩
    · simp only [withLeaves, look_append, over] at hb
      show i < r0.2.next
      cases e : look r0.2.heap i with
      | some b' => exact (wkSt_inv hq1).1 i b' e
      | none =>
        rw [e] at hb
        rw [(wkSt_inv hq1).2]
        exact Nat.lt_of_lt_of_le (hi i b (look_lvs.2 b hb).1) h3
    · simp only [withLeaves, look_append, over]
      cases e : look r0.2.heap i with
      | some b' => exact absurd (wkSt_mem hq1 i b' e) (apartB_of h4 hc)
      | none => exact look_lvs.1 c hc (look_mem_ids hc)
/-- handlers by the loops' first regions -/
def findL : List (Nat × LSpec) → Nat → Option LSpec
  | [], _ => none
  | (j, sp) :: r, i => if j == i then some sp else findL r i
def byReg (l : List (Nat × LSpec)) : Loops := fun c => match firstReg c with
  | some i => findL l i
  | none => none
/-- the loops of a code, outer ones -/
def loopsIn : Code → List Code
  | .seq a b => loopsIn a ++ loopsIn b
  | .cond _ a b => loopsIn a ++ loopsIn b
  | .block _ a => loopsIn a
  | .loop a => [a]
  | _ => []
theorem loopsOk_of {C : Cfg} {Λ : Loops} : ∀ c : Code, (∀ a ∈ loopsIn c, ∀ sp, Λ a = some sp → LoopOk C a sp) → LoopsOk C Λ c
  | .seq a b, h => ⟨loopsOk_of a fun x hx => h x (List.mem_append_left _ hx), loopsOk_of b fun x hx => h x (List.mem_append_right _ hx)⟩
  | .cond _ a b, h => ⟨loopsOk_of a fun x hx => h x (List.mem_append_left _ hx), loopsOk_of b fun x hx => h x (List.mem_append_right _ hx)⟩
  | .block _ a, h => loopsOk_of a h
  | .loop a, h => h a (List.mem_cons_self)
  | .skip, _ => trivial
  | .region _ _ _, _ => trivial
  | .exit _, _ => trivial
  | .ret, _ => trivial
  | .rangeFunc .., _ => trivial
  | .scope _, _ => trivial
  | .label _, _ => trivial
  | .goto _, _ => trivial
  | .refuse _, _ => trivial
end Go.Eng

/- The machine, fifth part: families of states by their values; a function with such loops. No program is named here. -/
namespace Go.Eng
set_option linter.unusedSectionVars false
variable [Go.Eng.GW]
open Go.RowKit
set_option linter.unusedVariables false
set_option linter.unusedSimpArgs false

def zipK {α : Type} : List Nat → List α → List (Nat × α)
  | k :: ks, v :: vs => (k, v) :: zipK ks vs
  | _, _ => []
def mkSt (T0 H0 : List Nat) (m sz : Nat) (vs : List V) (bs : List Blk) : St := ⟨zipK T0 vs, zipK H0 bs, m, sz⟩
theorem zipK_self {α : Type} : ∀ {l : List (Nat × α)} {K : List Nat}, l.map (·.1) = K → l = zipK K (l.map (·.2))
  | [], K, h => by subst h; rfl
  | (k, v) :: r, K, h => by
    subst h
    simp only [List.map_cons, zipK]
    rw [← zipK_self (l := r) rfl]
theorem wkTmps_keys {L : Look} {m : Nat} {l : Tm} : ∀ K : List Nat, (wkTmps L m l K).map (·.1) = K
  | [] => rfl
  | k :: r => by simp only [wkTmps, List.map_cons, wkTmps_keys r]
theorem wkHeap_keys {h : Heap} {m : Nat} : ∀ {K : List Nat} {h' : Heap}, wkHeap h m K = some h' → h'.map (·.1) = K
  | [], h', e => by simp only [wkHeap, Option.some.injEq] at e; subst e; rfl
  | k :: r, h', e => by
    unfold wkHeap at e
    split at e
    · split at e
      · obtain ⟨h1, e1, rfl⟩ := Option.map_eq_some_iff.1 e
        simp only [List.map_cons, wkHeap_keys e1]
      · cases e
    · cases e
theorem wkSt_mk {T0 H0 : List Nat} {m : Nat} {st s : St} (h : (wkSt T0 H0 m st).eval = some s) : s = mkSt T0 H0 m s.size (s.tmps.map (·.2)) (s.heap.map (·.2)) := by
  obtain ⟨hp, e, h⟩ := opt_eval h
  simp only [T.eval, Option.some.injEq] at h
  subst h
  unfold mkSt
  congr 1
  · exact zipK_self (wkTmps_keys _)
  · exact zipK_self (wkHeap_keys e)
/-- a handler by values -/
def famV {α : Type} (T0 H0 : List Nat) (m sz : Nat) (dec : List V → List Blk → Option α) (res : α → T (Ex × St)) : LSpec :=
  famL T0 H0 m sz (fun s => dec (s.tmps.map (·.2)) (s.heap.map (·.2))) res
theorem famV_ok {C : Cfg} (hC : C.Ok) (hm : C.P.follows .mixedOrders = true) {Λ : Loops} {c : Code} (hl : LoopsOk C Λ c) {T0 H0 : List Nat} {m sz : Nat} {α : Type} {vs : α → List V} {bs : α → List Blk} {step : α → T (Way α)}
    (hf : FamOk C Λ c T0 H0 m (fun d => mkSt T0 H0 m sz (vs d) (bs d)) step) {dec : List V → List Blk → Option α} {res : α → T (Ex × St)}
    (hd : ∀ l b d, dec l b = some d → l = vs d ∧ b = bs d) (hr : ∀ d r, (res d).eval = some r → ∃ n, (iter step n d).eval = some r) : LoopOk C c (famV T0 H0 m sz dec res) :=
  famL_ok hC hm hl hf (fun s d hn hs h ⟨st, hw⟩ => by
    rw [wkSt_mk hw, hs]
    obtain ⟨e1, e2⟩ := hd _ _ _ h
    rw [e1, e2]) hr
/-- the code of a function -/
noncomputable def codeOf (P : Program) (f : Nat) : Code := ((P.funcs[f]?).bind (·.body)).getD .skip
theorem execS_loops {C : Cfg} (hC : C.Ok) (hm : C.P.follows .mixedOrders = true) {Λ : Loops} {f : Nat} {fn : Func} (hf : C.P.funcs[f]? = some fn) (hb : fn.body.isSome = true) (hnm : (fn.name == "runtime.NumGoroutine") = false)
    (hl : ∀ a ∈ loopsIn (codeOf C.P f), ∀ sp, Λ a = some sp → LoopOk C a sp) : SpecOk C.P f (execS C Λ f) := by
  obtain ⟨c, hc⟩ := Option.isSome_iff_exists.1 hb
  have e : codeOf C.P f = c := by simp [codeOf, hf, hc]
  rw [e] at hl
  exact execS_ok hC hm hf hc hnm (loopsOk_of c hl)
/-- the n-th loop of a function -/
noncomputable def loopAt (P : Program) (f n : Nat) : Code := (loopsIn (codeOf P f)).getD n .skip
theorem byReg_mem {C : Cfg} {l : List (Nat × LSpec)} {a : Code} {i : Nat} (hi : firstReg a = some i) {sp : LSpec} (hsp : findL l i = some sp) (h : LoopOk C a sp) : ∀ sp', byReg l a = some sp' → LoopOk C a sp' := by
  intro sp' h'
  unfold byReg at h'
  rw [hi, ] at h'
  simp only at h'
  rw [hsp] at h'
  cases h'; exact h
end Go.Eng

/- The machine, sixth part: loops by what a round does, and a last state that the kernel cannot run. No program is named here. -/
namespace Go.Eng
set_option linter.unusedSectionVars false
variable [Go.Eng.GW]
open Go.RowKit
set_option linter.unusedVariables false
set_option linter.unusedSimpArgs false

def runW {α : Type} (nxt : α → Option α) : Nat → α → Option α
  | 0, a => match nxt a with | none => some a | some _ => none
  | n + 1, a => match nxt a with | none => some a | some b => runW nxt n b
/-- where the rounds end -/
noncomputable def endW {α : Type} (nxt : α → Option α) (a : α) : α := @dite α (∃ b n, runW nxt n a = some b) (Classical.propDecidable _) (fun h => h.choose) (fun _ => a)
theorem runW_det {α : Type} {nxt : α → Option α} : ∀ {n m : Nat} {a b c : α}, runW nxt n a = some b → runW nxt m a = some c → b = c
  | 0, 0, a, b, c, h1, h2 => by rw [h1] at h2; exact Option.some.inj h2
  | 0, m + 1, a, b, c, h1, h2 => by
    unfold runW at h1 h2
    cases e : nxt a <;> rw [e] at h1 h2
    · simp_all
    · cases h1
  | n + 1, 0, a, b, c, h1, h2 => by
    unfold runW at h1 h2
    cases e : nxt a <;> rw [e] at h1 h2
    · simp_all
    · cases h2
  | n + 1, m + 1, a, b, c, h1, h2 => by
    unfold runW at h1 h2
    cases e : nxt a <;> rw [e] at h1 h2
    · simp_all
    · exact runW_det h1 h2
theorem endW_eq {α : Type} {nxt : α → Option α} {n : Nat} {a b : α} (h : runW nxt n a = some b) : endW nxt a = b := by
  have hx : ∃ b n, runW nxt n a = some b := ⟨b, n, h⟩
  unfold endW
  rw [dif_pos hx]
  obtain ⟨m, hm⟩ := hx.choose_spec
  exact runW_det hm h
theorem runW_stop {α : Type} {nxt : α → Option α} : ∀ {n : Nat} {a b : α}, runW nxt n a = some b → nxt b = none
  | 0, a, b, h => by
    unfold runW at h
    cases e : nxt a <;> rw [e] at h
    · simp only [Option.some.injEq] at h; rw [← h, e]
    · cases h
  | n + 1, a, b, h => by
    unfold runW at h
    cases e : nxt a <;> rw [e] at h
    · simp only [Option.some.injEq] at h; rw [← h, e]
    · exact runW_stop h
theorem runW_ind {α : Type} {nxt : α → Option α} {Q : α → Prop} (hQ : ∀ a b, Q a → nxt a = some b → Q b) : ∀ {n : Nat} {a b : α}, Q a → runW nxt n a = some b → Q b
  | 0, a, b, h0, h => by
    unfold runW at h
    cases e : nxt a <;> rw [e] at h
    · simp only [Option.some.injEq] at h; exact h ▸ h0
    · cases h
  | n + 1, a, b, h0, h => by
    unfold runW at h
    cases e : nxt a <;> rw [e] at h
    · simp only [Option.some.injEq] at h; exact h ▸ h0
    · exact runW_ind hQ (hQ _ _ h0 e) h
theorem runW_some {α : Type} {nxt : α → Option α} {I : α → Prop} {μ : α → Nat} (hI : ∀ a b, I a → nxt a = some b → I b ∧ μ b < μ a) : ∀ (n : Nat) (a : α), I a → μ a ≤ n → ∃ b, runW nxt n a = some b
  | 0, a, h, hn => by
    unfold runW
    cases e : nxt a
    · exact ⟨a, rfl⟩
    · have := (hI _ _ h e).2; omega
  | n + 1, a, h, hn => by
    unfold runW
    cases e : nxt a with
    | none => exact ⟨a, rfl⟩
    | some b =>
      obtain ⟨h1, h2⟩ := hI _ _ h e
      exact runW_some hI n b h1 (by omega)
/-- the end: what stays true, and that it is one -/
theorem endW_says {α : Type} {nxt : α → Option α} {I : α → Prop} {μ : α → Nat} (hI : ∀ a b, I a → nxt a = some b → I b ∧ μ b < μ a) {a : α} (h : I a) : I (endW nxt a) ∧ nxt (endW nxt a) = none ∧ ∀ Q : α → Prop, Q a → (∀ a b, I a → Q a → nxt a = some b → Q b) → Q (endW nxt a) := by
  obtain ⟨b, hb⟩ := runW_some hI (μ a) a h (Nat.le_refl _)
  rw [endW_eq hb]
  refine ⟨runW_ind (fun a b h e => (hI a b h e).1) h hb, runW_stop hb, fun Q h0 hQ => ?_⟩
  exact (runW_ind (Q := fun a => I a ∧ Q a) (fun a b h e => ⟨(hI a b h.1 e).1, hQ a b h.1 h.2 e⟩) ⟨h, h0⟩ hb).2
def stepW {P A : Type} (inv : P → A → Bool) (nxt : P → A → Option A) (out : P → A → T (Ex × St)) (d : P × A) : T (Way (P × A)) :=
  .ite none (inv d.1 d.2) (match nxt d.1 d.2 with | some b => .ret (.next (d.1, b)) | none => (out d.1 d.2).bind fun r => .ret (.out r.1 r.2)) .fail
theorem stepW_some {P A : Type} {inv : P → A → Bool} {nxt : P → A → Option A} {out : P → A → T (Ex × St)} {p : P} {a b : A} (hi : inv p a = true) (hn : nxt p a = some b) : (stepW inv nxt out (p, a)).eval = some (.next (p, b)) := by
  simp only [stepW, hi, hn]; rfl
theorem stepW_none {P A : Type} {inv : P → A → Bool} {nxt : P → A → Option A} {out : P → A → T (Ex × St)} {p : P} {a : A} {r : Ex × St} (hi : inv p a = true) (hn : nxt p a = none) (h : (out p a).eval = some r) : (stepW inv nxt out (p, a)).eval = some (.out r.1 r.2) := by
  simp only [stepW, hi, hn]
  show ((out p a).bind fun r => .ret (Way.out r.1 r.2)).eval = _
  rw [T.eval_bind, h]; rfl
noncomputable def resW {P A : Type} (inv : P → A → Bool) (nxt : P → A → Option A) (out : P → A → T (Ex × St)) (d : P × A) : T (Ex × St) :=
  .ite none (inv d.1 d.2) (out d.1 (endW (nxt d.1) d.2)) .fail
noncomputable def famW {P A : Type} (T0 H0 : List Nat) (m sz : Nat) (dec : List V → List Blk → Option (P × A)) (inv : P → A → Bool) (nxt : P → A → Option A) (out : P → A → T (Ex × St)) : LSpec :=
  famV T0 H0 m sz dec (resW inv nxt out)
theorem famW_ok {C : Cfg} (hC : C.Ok) (hm : C.P.follows .mixedOrders = true) {Λ : Loops} {c : Code} (hl : LoopsOk C Λ c) {T0 H0 : List Nat} {m sz : Nat} {P A : Type} {vs : P → A → List V} {bs : P → A → List Blk}
    {inv : P → A → Bool} {nxt : P → A → Option A} {out : P → A → T (Ex × St)} {dec : List V → List Blk → Option (P × A)}
    (hd : ∀ l b d, dec l b = some d → l = vs d.1 d.2 ∧ b = bs d.1 d.2) (μ : P → A → Nat)
    (hs : ∀ p a b, inv p a = true → nxt p a = some b → inv p b = true ∧ μ p b < μ p a)
    (hr : ∀ p a, inv p a = true → (∀ b, nxt p a = some b → (roundT C Λ c T0 H0 m (mkSt T0 H0 m sz (vs p a) (bs p a))).eval = some (.normal, mkSt T0 H0 m sz (vs p b) (bs p b))) ∧
      (nxt p a = none → ∀ r, (out p a).eval = some r → r.1 ≠ .normal ∧ (roundT C Λ c T0 H0 m (mkSt T0 H0 m sz (vs p a) (bs p a))).eval = some r)) :
    LoopOk C c (famW T0 H0 m sz dec inv nxt out) := by
  refine famV_ok hC hm hl (vs := fun d => vs d.1 d.2) (bs := fun d => bs d.1 d.2) (step := stepW inv nxt out) (fun d x hx => ?_) hd fun d r h => ?_
  · obtain ⟨p, a⟩ := d
    unfold stepW at hx
    cases hi : inv p a
    · simp only [hi] at hx; cases hx
    · simp only [hi] at hx
      cases hn : nxt p a with
      | some b =>
        simp only [hn] at hx
        obtain rfl := Option.some.inj hx
        exact (hr p a hi).1 b hn
      | none =>
        simp only [hn] at hx
        obtain ⟨r, h1, h2⟩ := T.eval_bind_some (show ((out p a).bind fun r => .ret (.out r.1 r.2)).eval = some x from hx)
        obtain rfl := Option.some.inj h2
        exact ((hr p a hi).2 hn r h1).2
  · obtain ⟨p, a⟩ := d
    unfold resW at h
    cases hi : inv p a
    · simp only [hi] at h; cases h
    · simp only [hi] at h
      have h' : (out p (endW (nxt p) a)).eval = some r := h
      have hI : ∀ a b, inv p a = true → nxt p a = some b → inv p b = true ∧ μ p b < μ p a := fun a b h e => hs p a b h e
      obtain ⟨e, he⟩ := runW_some hI (μ p a) a hi (Nat.le_refl _)
      rw [endW_eq he] at h'
      refine ⟨μ p a + 1, ?_⟩
      clear h
      generalize μ p a = n at he
      clear hI
      induction n generalizing a with
      | zero =>
        unfold runW at he
        unfold iter
        rw [T.eval_bind]
        cases hn : nxt p a <;> rw [hn] at he
        · simp only [Option.some.injEq] at he
          subst he
          rw [stepW_none hi hn h']
          have := ((hr p a hi).2 hn r h').1
          obtain ⟨r1, r2⟩ := r
          cases r1 <;> first | rfl | exact absurd rfl this
        · cases he
      | succ n ih =>
        unfold runW at he
        unfold iter
        rw [T.eval_bind]
        cases hn : nxt p a with
        | none =>
          rw [hn] at he
          simp only [Option.some.injEq] at he
          subst he
          rw [stepW_none hi hn h']
          have := ((hr p a hi).2 hn r h').1
          obtain ⟨r1, r2⟩ := r
          cases r1 <;> first | rfl | exact absurd rfl this
        | some b =>
          rw [hn] at he
          rw [stepW_some hi hn]
          exact ih b (hs p a b hi hn).1 he
def gI (l : List Int) (i : Int) : Int := l.getD (0 + i.toNat) 0
def gB (l : List Bool) (i : Int) : Bool := l.getD (0 + i.toNat) false
theorem gI_wf {l : List Int} (h : ∀ x ∈ l, (Lit.int .i64 x).wf = true) (i : Int) : (Lit.int .i64 (gI l i)).wf = true := by
  unfold gI
  rw [List.getD_eq_getElem?_getD]
  cases e : l[0 + i.toNat]? with
  | none => rfl
  | some x => exact h x (List.mem_of_getElem? e)
theorem tev_then {α : Type} {i : Option Nat} {c : Bool} {x y : T α} {v : Option α} (h : c = true) (h1 : x.eval = v) : (T.ite i c x y).eval = v := by rw [h]; exact h1
theorem tev_else {α : Type} {i : Option Nat} {c : Bool} {x y : T α} {v : Option α} (h : c = false) (h1 : y.eval = v) : (T.ite i c x y).eval = v := by rw [h]; exact h1
theorem cond_and (a b : Bool) : (bif a then b else false) = (a && b) := by cases a <;> rfl
theorem cond_or (a b : Bool) : (bif a then true else b) = (a || b) := by cases a <;> rfl
end Go.Eng

/- The machine: functions with objects. No program is named here. -/
namespace Go.Eng
set_option linter.unusedSectionVars false
variable [Go.Eng.GW]
open Go.RowKit
set_option linter.unusedVariables false
set_option linter.unusedSimpArgs false
/-- a function's first state: its arguments and what they lead to -/
def entryO (args : List V) (h : Heap) (k : Nat) : St := ⟨slots 0 args ++ rests args.length k, h, h.length, args.length + k⟩
def ownKeys (h : Heap) : List Nat := keysN (h.filter fun p => p.2.owned)
/-- what it leaves -/
def retO (h : Heap) (L : Look) (l : List V) : V × Heap := (detO L (pack l), (grab L 200 (ownKeys h ++ idsV (detO L (pack l))) []).filter fun p => p.2.owned)
def execFO (C : Cfg) (Λ : Loops) (f : Nat) (args : List V) (h : Heap) : T (V × Heap) :=
  match C.P.funcs[f]? with
  | none => .fail
  | some fn => match fn.body with
    | none => .fail
    | some c => (exec C Λ c (widen C.E (entryO args h (fn.ntmps - args.length)))).bind fun x =>
      match x.1 with
      | .exit _ => .fail
      | _ => (resList C.P x.2 fn.results.toList).bind fun l => if (l.all fun v => !v.isJunk) = true then .ret (retO h (look x.2.heap) l) else .fail
/-- **A function with objects, its impossible ways left out.** -/
def execO (C : Cfg) (Λ : Loops) (f : Nat) : Obj := fun args h => (execFO C Λ f args h).simp []
theorem grab_mem {L : Look} : ∀ (n : Nat) (q : List Nat) (acc : Heap), (∀ i b', (i, b') ∈ acc → ∃ b, L i = some b ∧ b' = b.det L) → ∀ i b', (i, b') ∈ grab L n q acc → ∃ b, L i = some b ∧ b' = b.det L
  | 0, _, acc, h => h
  | _ + 1, [], acc, h => h
  | n + 1, i :: q, acc, h => by
    unfold grab
    split
    · exact grab_mem n q acc h
    · split
      · rename_i b hb
        refine grab_mem n _ _ fun j b' hj => ?_
        rcases List.mem_append.1 hj with hj | hj
        · exact h j b' hj
        · simp only [List.mem_singleton, Prod.mk.injEq] at hj
          obtain ⟨rfl, rfl⟩ := hj
          exact ⟨b, hb, rfl⟩
      · exact grab_mem n q acc h
theorem entryO_get (args : List V) (h : Heap) (k t : Nat) : getT (entryO args h k).tmps t = if t < args.length then (args[t]?).getD .junk else if t < args.length + k then .raw undef else .junk := by
  simp only [entryO]
  rw [getT_append, slots_any, slots_get _ _ _ (Nat.zero_le _), rests_get]
  by_cases h : t < args.length
  · rw [if_pos (by simp; omega), if_pos h]; rfl
  · rw [if_neg (by simp; omega), if_neg h]
    by_cases h2 : t < args.length + k
    · rw [if_pos (by omega), if_pos h2]
    · rw [if_neg (by omega), if_neg h2]
theorem entryO_says {args : List V} {h : Heap} {ν : Env} {w : World} {k : Nat} (hG : Glob w) (hF : ∀ k, ownFp ν h k → gs ≤ k) (ha : okL (inH h) args = true) (hh : ∀ i b, look h i = some b → b.ok (inH h) = true ∧ i < h.length) (hr : Rel ν (look h) w) :
    Says ν h.length w (ownFp ν h) ν (entryO args h k) { tmps := (denL ν args).toArray ++ Array.replicate k undef, defers := [] } w := by
  have hin : ∀ i, inH h i = true → lt h.length i = true := by
    intro i hi
    obtain ⟨b, hb⟩ := Option.isSome_iff_exists.1 hi
    rw [lt_iff]; exact (hh i b hb).2
  refine ⟨⟨?_, ?_, ?_, rfl, hr, ?_, ?_, Prog.refl _ _, ?_, fun _ _ => rfl, hG, hF⟩, Nat.le_refl _⟩
  · simp [denL_map, entryO]
  · intro t ht
    rw [entryO_get] at ht
    show t < args.length + k
    by_cases h : t < args.length
    · omega
    · rw [if_neg h] at ht
      by_cases h2 : t < args.length + k
      · exact h2
      · rw [if_neg h2] at ht; simp [V.isJunk] at ht
  · intro t ht
    rw [entryO_get] at ht ⊢
    by_cases h : t < args.length
    · rw [if_pos h]
      simp [Array.getD_eq_getD_getElem?, Array.getElem?_append, denL_map, h]
    · rw [if_neg h] at ht ⊢
      by_cases h2 : t < args.length + k
      · rw [if_pos h2]
        simp only [V.den]
        simp [Array.getD_eq_getD_getElem?, Array.getElem?_append, denL_map, h]
        rw [Array.getElem?_replicate, if_pos (by omega)]
        rfl
      · rw [if_neg h2] at ht; simp [V.isJunk] at ht
  · intro t ht
    rw [entryO_get] at ht ⊢
    by_cases h : t < args.length
    · rw [if_pos h]
      refine V.ok_mono hin _ ((okL_iff _ _).1 ha _ ?_)
      simp [h]
    · rw [if_neg h] at ht ⊢
      by_cases h2 : t < args.length + k
      · rw [if_pos h2]; rfl
      · rw [if_neg h2] at ht; simp [V.isJunk] at ht
  · intro i b hb
    have h1 := hh i b hb
    refine ⟨?_, by rw [lt_iff]; exact h1.2⟩
    have := Blk.ren_ok (σ := fun i => i) (p := inH h) (q := lt h.length) hin b h1.1
    exact Blk.ok_mono hin h1.1
  · exact fun i b hb ho k hk => .inl ⟨i, b, hb, ho, hk⟩
theorem execFO_ok {C : Cfg} (hC : C.Ok) (hm : C.P.follows .mixedOrders = true) {Λ : Loops} {f : Nat} {fn : Func} {c : Code} (hf : C.P.funcs[f]? = some fn) (hb : fn.body = some c) (hnm : (fn.name == "runtime.NumGoroutine") = false)
    (hl : LoopsOk C Λ c) : ObjOk C.P f (execFO C Λ f) := by
  refine ⟨⟨fn, hf, by simp [hb], hnm⟩, fun args h v h' ν w hG hF hoa hoh hrel hv hout => ?_⟩
  unfold execFO at hv
  simp only [hf, hb] at hv
  obtain ⟨x, h1, hv⟩ := T.eval_bind_some hv
  refine calls_of_wp hf hb ?_
  have hsz : (denL ν args).toArray.size = args.length := by simp [denL_map]
  rw [hsz]
  have hsay := entryO_says (k := fn.ntmps - args.length) hG hF hoa hoh hrel
  refine exec_ok hC hm c _ x _ _ _ w hl h1 (says_widen hsay) ?_
  intro ν' a' w' hs'
  have fin : ∀ {e : Exit}, (e = .normal ∨ e = .ret) → (resList C.P x.2 fn.results.toList).eval.bind (fun l => (if (l.all fun v => !v.isJunk) = true then T.ret (retO h (look x.2.heap) l) else .fail : T (V × Heap)).eval) = some (v, h') →
      bodyPost C.P fn (fun e w' => ∃ ν' : Env, e = .returned (v.den ν') ∧ (∀ i, inH h i = true → (ν' i).core = (ν i).core) ∧ Rel ν' (look h') w' ∧ (∀ i b, look h' i = some b → ∀ k, (ν' i).fp k → ownFp ν h k ∨ w.heap.size ≤ k) ∧ Prog w w' (ownFp ν h)) e a' w' := by
    intro e he hq
    cases hrs : (resList C.P x.2 fn.results.toList).eval with
    | none => rw [hrs] at hq; cases hq
    | some l =>
      rw [hrs] at hq
      simp only [Option.bind_some] at hq
      split at hq
      · rename_i hj
        simp only [T.eval, Option.some.injEq] at hq
        have hv1 : detO (look x.2.heap) (pack l) = v := congrArg Prod.fst hq
        have hv2 : (grab (look x.2.heap) 200 (ownKeys h ++ idsV (detO (look x.2.heap) (pack l))) []).filter (fun p => p.2.owned) = h' := congrArg Prod.snd hq
        have hjl : ∀ y ∈ l, y.isJunk = false := fun y hy => by
          have := List.all_eq_true.1 hj y hy
          simpa using this
        have hrun := run_results (P := C.P) hs'.1.tmp hs'.1.rel fn.results.toList l hrs hjl
        have hres : (results fn a'.tmps).run C.P w' = .ok ((pack l).den ν') w' := by
          rw [results_eq]
          simp only [Array.mapM_eq_mapM_toList, Sem.run_bind, Sem.run_map, hrun]
          simp only [Result.andThen_ok, Sem.run_pure]
          exact congrArg (fun x => Result.ok x w') (pack_den ν' _)
        unfold outO at hout
        simp only [Bool.and_eq_true] at hout
        obtain ⟨hout1, hout2⟩ := hout
        have hvd : (pack l).den ν' = v.den ν' := by
          rw [← hv1]
          exact (detO_den (p := inO h h') hs'.1.rel (pack l) (by rw [hv1]; exact hout1)).symm
        have hlk : ∀ i b, look h' i = some b → ∃ b0, look x.2.heap i = some b0 ∧ b = b0.det (look x.2.heap) ∧ b.owned = true ∧ b.ok (inO h h') = true := by
          intro i b e
          have hm := mem_of_look e
          have ho := List.all_eq_true.1 hout2 _ hm
          simp only [Bool.and_eq_true] at ho
          rw [← hv2] at hm
          obtain ⟨hm1, _⟩ := List.mem_filter.1 hm
          obtain ⟨b0, q1, q2⟩ := grab_mem 200 _ [] (fun i b' h => by cases h) i b hm1
          exact ⟨b0, q1, q2, ho.1.1, ho.1.2⟩
        have hrel2 : Rel ν' (look h') w' := by
          refine ⟨fun i b e => ?_, fun i j bi bj ne ei ej ho => ?_⟩
          · obtain ⟨b0, q1, rfl, q3, q4⟩ := hlk i b e
            exact Blk.det_den hs'.1.rel b0 q4 (hs'.1.rel.den i b0 q1)
          · obtain ⟨b0, q1, rfl, q3, _⟩ := hlk i bi ei
            obtain ⟨b1, r1, rfl, _, _⟩ := hlk j bj ej
            rw [Blk.det_owned] at ho
            exact hs'.1.rel.dis i j b0 b1 ne q1 r1 ho
        have hgoal : ∃ ν'' : Env, (Ending.returned ((pack l).den ν') : Ending) = .returned (v.den ν'') ∧ (∀ i, inH h i = true → (ν'' i).core = (ν i).core) ∧ Rel ν'' (look h') w' ∧ (∀ i b, look h' i = some b → ∀ k, (ν'' i).fp k → ownFp ν h k ∨ w.heap.size ≤ k) ∧ Prog w w' (ownFp ν h) := by
          refine ⟨ν', by rw [hvd], fun i hi => hs'.1.base i ?_, hrel2, fun i b e k hk => ?_, hs'.1.prog⟩
          · obtain ⟨b, hb⟩ := Option.isSome_iff_exists.1 hi
            exact (hoh i b hb).2
          · obtain ⟨b0, q1, rfl, q3, _⟩ := hlk i b e
            rw [Blk.det_owned] at q3
            exact hs'.1.own i b0 q1 q3 k hk
        rcases he with rfl | rfl
        · exact ⟨hs'.1.defers, _, hres, hgoal⟩
        · exact ⟨hs'.1.defers, _, hres, hgoal⟩
      · cases hq
  obtain ⟨e, st⟩ := x
  cases e with
  | normal => rw [T.eval_bind] at hv; exact fin (.inl rfl) hv
  | exit i => cases hv
  | ret => rw [T.eval_bind] at hv; exact fin (.inr rfl) hv
theorem execO_eval {C : Cfg} {Λ : Loops} {f : Nat} {fn : Func} {c : Code} (hf : C.P.funcs[f]? = some fn) (hb : fn.body = some c) (hl : LoopsOk C Λ c) {args : List V} {h0 : Heap} (hh : ∀ i b, look h0 i = some b → i < h0.length) {r : V × Heap} (h : (execO C Λ f args h0).eval = some r) : (execFO C Λ f args h0).eval = some r := by
  unfold execO at h
  rw [T.eval_simp] at h
  cases hw : (execFO C Λ f args h0).walk [] with
  | none => rw [hw] at h; cases h
  | some r =>
    rw [hw] at h
    simp only [Option.map_some, Option.some.injEq] at h
    subst h
    unfold execFO at hw ⊢
    simp only [hf, hb] at hw ⊢
    obtain ⟨x, K', h1, hw⟩ := T.walk_bind_some hw
    have hinv : Inv (widen C.E (entryO args h0 (fn.ntmps - args.length))) := widen_inv fun i b hb => hh i b hb
    obtain ⟨h2, h3, h4⟩ := exec_walk c _ [] (x, K') hl hinv (fun i b hb => by cases hb) h1
    rw [T.eval_bind, h2]
    obtain ⟨e, st⟩ := x
    have fin : ∀ {r : (V × Heap) × List (Nat × Bool)}, ((resList C.P st fn.results.toList).bind fun l => if (l.all fun v => !v.isJunk) = true then T.ret (retO h0 (look st.heap) l) else .fail : T (V × Heap)).walk K' = some r →
        ((resList C.P st fn.results.toList).bind fun l => if (l.all fun v => !v.isJunk) = true then T.ret (retO h0 (look st.heap) l) else .fail : T (V × Heap)).eval = some r.1 := fun h =>
      (T.walk_from (L := look st.heap) _ _ _ (T.asks_bind asks_resList fun l => (by split <;> exact trivial)) h4 h).1
    cases e with
    | normal => exact fin hw
    | exit i => cases hw
    | ret => exact fin hw
theorem execO_ok {C : Cfg} (hC : C.Ok) (hm : C.P.follows .mixedOrders = true) {Λ : Loops} {f : Nat} {fn : Func} {c : Code} (hf : C.P.funcs[f]? = some fn) (hb : fn.body = some c) (hnm : (fn.name == "runtime.NumGoroutine") = false)
    (hl : LoopsOk C Λ c) : ObjOk C.P f (execO C Λ f) := by
  have h := execFO_ok hC hm hf hb hnm hl
  exact ⟨h.body, fun args h0 v h' ν w hG hF h1 h2 h3 hv h4 => h.calls args h0 v h' ν w hG hF h1 h2 h3 (execO_eval hf hb hl (fun i b q => (h2 i b q).2) hv) h4⟩
theorem execO_plain {C : Cfg} (hC : C.Ok) (hm : C.P.follows .mixedOrders = true) {f : Nat} {fn : Func} (hf : C.P.funcs[f]? = some fn) (hb : fn.body.isSome = true) (hnm : (fn.name == "runtime.NumGoroutine") = false) :
    ObjOk C.P f (execO C noLoops f) := by
  obtain ⟨c, hc⟩ := Option.isSome_iff_exists.1 hb
  exact execO_ok hC hm hf hc hnm (noLoops_ok c)
theorem execO_rounds {C : Cfg} (hC : C.Ok) (hm : C.P.follows .mixedOrders = true) (n d : Nat) {f : Nat} {fn : Func} (hf : C.P.funcs[f]? = some fn) (hb : fn.body.isSome = true) (hnm : (fn.name == "runtime.NumGoroutine") = false) :
    ObjOk C.P f (execO C (rounds C n d) f) := by
  obtain ⟨c, hc⟩ := Option.isSome_iff_exists.1 hb
  exact execO_ok hC hm hf hc hnm (rounds_ok hC hm n d c)
theorem execO_loops {C : Cfg} (hC : C.Ok) (hm : C.P.follows .mixedOrders = true) {Λ : Loops} {f : Nat} {fn : Func} (hf : C.P.funcs[f]? = some fn) (hb : fn.body.isSome = true) (hnm : (fn.name == "runtime.NumGoroutine") = false)
    (hl : ∀ a ∈ loopsIn (codeOf C.P f), ∀ sp, Λ a = some sp → LoopOk C a sp) : ObjOk C.P f (execO C Λ f) := by
  obtain ⟨c, hc⟩ := Option.isSome_iff_exists.1 hb
  have e : codeOf C.P f = c := by simp [codeOf, hf, hc]
  rw [e] at hl
  exact execO_ok hC hm hf hc hnm (loopsOk_of c hl)
/-- what comes to the same is a contract as well -/
theorem ObjOk.of_eval {P : Program} {f : Nat} {sp sp' : Obj} (h : ObjOk P f sp) (he : ∀ args h v, (sp' args h).eval = some v → (sp args h).eval = some v) : ObjOk P f sp' :=
  ⟨h.body, fun args h0 v h' ν w hG hF h1 h2 h3 hv h4 => h.calls args h0 v h' ν w hG hF h1 h2 h3 (he _ _ _ hv) h4⟩
/-- a handler for either kind of state -/
theorem LoopOk.cases {C : Cfg} {body : Code} {sp1 sp2 : LSpec} (g : St → Bool) (h1 : LoopOk C body sp1) (h2 : LoopOk C body sp2) : LoopOk C body (fun st => bif g st then sp1 st else sp2 st) := by
  refine ⟨fun st r h => ?_, fun st r h => ?_⟩
  · cases q : g st
    · rw [q] at h; exact h2.run st r h
    · rw [q] at h; exact h1.run st r h
  · cases q : g st
    · rw [q] at h; exact h2.keep st r h
    · rw [q] at h; exact h1.keep st r h
theorem unroll_loop {C : Cfg} (hC : C.Ok) (hm : C.P.follows .mixedOrders = true) (n : Nat) (body : Code) : LoopOk C body (unroll C noLoops body n) := unroll_ok hC hm (noLoops_ok body) n
/-! ### one way through a tree -/
/-- the way that these choices tell: what is asked on it, and where it leads -/
def T.path {α : Type} : List Bool → T α → Option (List (Bool × Bool) × α)
  | [], .ret a => some ([], a)
  | b :: r, .ite _ c x y => match (match b with | true => T.path r x | false => T.path r y) with
    | some (l, a) => some ((c, b) :: l, a)
    | none => none
  | _, _ => none
def allSay : List (Bool × Bool) → Prop
  | [] => True
  | p :: l => p.1 = p.2 ∧ allSay l
theorem T.path_eval {α : Type} : ∀ {ch : List Bool} {t : T α} {cs : List (Bool × Bool)} {v : α}, T.path ch t = some (cs, v) → allSay cs → t.eval = some v
  | [], .ret a, cs, v, h, _ => by simp only [T.path, Option.some.injEq, Prod.mk.injEq] at h; rw [← h.2]; rfl
  | [], .fail, cs, v, h, _ => by simp [T.path] at h
  | [], .ite _ _ _ _, cs, v, h, _ => by simp [T.path] at h
  | _ :: _, .ret _, cs, v, h, _ => by simp [T.path] at h
  | _ :: _, .fail, cs, v, h, _ => by simp [T.path] at h
  | true :: r, .ite _ c x y, cs, v, h, hs => by
    simp only [T.path] at h
    cases e : T.path r x with
    | none => rw [e] at h; cases h
    | some q =>
      obtain ⟨l, a⟩ := q
      rw [e] at h
      simp only [Option.some.injEq, Prod.mk.injEq] at h
      obtain ⟨rfl, rfl⟩ := h
      have h1 : c = true := hs.1
      rw [h1]; show x.eval = _; exact T.path_eval e hs.2
  | false :: r, .ite _ c x y, cs, v, h, hs => by
    simp only [T.path] at h
    cases e : T.path r y with
    | none => rw [e] at h; cases h
    | some q =>
      obtain ⟨l, a⟩ := q
      rw [e] at h
      simp only [Option.some.injEq, Prod.mk.injEq] at h
      obtain ⟨rfl, rfl⟩ := h
      have h1 : c = false := hs.1
      rw [h1]; show y.eval = _; exact T.path_eval e hs.2
/-- the choices of a tree whose questions are closed -/
def T.choices {α : Type} : T α → List Bool
  | .ite _ c x y => bif c then true :: x.choices else false :: y.choices
  | _ => []
end Go.Eng

/- The machine: numbers of a state's blocks changed. No program is named here. -/
namespace Go.Eng
set_option linter.unusedSectionVars false
variable [Go.Eng.GW]
open Go.RowKit
set_option linter.unusedVariables false
set_option linter.unusedSimpArgs false
def renTm (σ : Nat → Nat) : Tm → Tm
  | [] => []
  | (t, v) :: r => (t, v.ren σ) :: renTm σ r
def renHp (σ : Nat → Nat) : Heap → Heap
  | [] => []
  | (i, b) :: r => (σ i, b.ren σ) :: renHp σ r
theorem V.ren_junk {σ : Nat → Nat} (v : V) : (v.ren σ).isJunk = v.isJunk := by cases v <;> rfl
theorem renTm_get {σ : Nat → Nat} : ∀ (l : Tm) (t : Nat), getT (renTm σ l) t = (getT l t).ren σ
  | [], t => rfl
  | (j, v) :: r, t => by
    simp only [renTm, getT]
    split
    · rfl
    · exact renTm_get r t
theorem renHp_mem {σ : Nat → Nat} : ∀ {h : Heap} {i : Nat} {b : Blk}, (i, b) ∈ renHp σ h → ∃ j b0, (j, b0) ∈ h ∧ i = σ j ∧ b = b0.ren σ
  | (j, b0) :: r, i, b, hm => by
    simp only [renHp, List.mem_cons, Prod.mk.injEq] at hm
    rcases hm with ⟨rfl, rfl⟩ | hm
    · exact ⟨j, b0, List.mem_cons_self, rfl, rfl⟩
    · obtain ⟨j', b', h1, h2, h3⟩ := renHp_mem hm
      exact ⟨j', b', List.mem_cons_of_mem _ h1, h2, h3⟩
theorem keys_renHp {σ : Nat → Nat} : ∀ h : Heap, keysN (renHp σ h) = (keysN h).map σ
  | [] => rfl
  | (i, b) :: r => by
    show σ i :: keysN (renHp σ r) = σ i :: (keysN r).map σ
    rw [keys_renHp r]
theorem inj_of_nodup {σ : Nat → Nat} : ∀ {l : List Nat}, nodupN (l.map σ) = true → ∀ i j, memN l i = true → memN l j = true → σ i = σ j → i = j
  | k :: r, hd, i, j, hi, hj, e => by
    simp only [List.map_cons, nodupN, Bool.and_eq_true, Bool.not_eq_true'] at hd
    have mm : ∀ {l : List Nat} {x : Nat}, memN l x = true → memN (l.map σ) (σ x) = true := by
      intro l
      induction l with
      | nil => intro x h; cases h
      | cons y q ih =>
        intro x h
        simp only [memN, List.map_cons, Bool.or_eq_true] at h ⊢
        rcases h with h | h
        · exact .inl (by rw [Nat.eq_of_beq_eq_true h]; simp [Nat.beq_eq])
        · exact .inr (ih h)
    simp only [memN, Bool.or_eq_true] at hi hj
    rcases hi with hi | hi <;> rcases hj with hj | hj
    · rw [← Nat.eq_of_beq_eq_true hi, ← Nat.eq_of_beq_eq_true hj]
    · have := mm hj
      rw [← e, ← Nat.eq_of_beq_eq_true hi, hd.1] at this; cases this
    · have := mm hi
      rw [e, ← Nat.eq_of_beq_eq_true hj, hd.1] at this; cases this
    · exact inj_of_nodup hd.2 i j hi hj e
/-- **A state by other numbers**: those below n0 stay. -/
theorem Says.ren {ν0 : Env} {n0 : Nat} {w0 : World} {F0 : Nat → Prop} {ν : Env} {st : St} {a : Act} {w : World} (hs : Says ν0 n0 w0 F0 ν st a w) {σ : Nat → Nat} {next' : Nat}
    (hT : ∀ t, (getT st.tmps t).isJunk = false → (getT st.tmps t).ok (inH st.heap) = true) (hH : ∀ i b, look st.heap i = some b → b.ok (inH st.heap) = true) (hd : nodupN (keysN st.heap) = true) (hd' : nodupN ((keysN st.heap).map σ) = true)
    (hσ : ∀ i, inH st.heap i = true → (σ i = i ∨ n0 ≤ σ i) ∧ σ i < next') (hn : n0 ≤ next') : ∃ ν', Says ν0 n0 w0 F0 ν' ⟨renTm σ st.tmps, renHp σ st.heap, next', st.size⟩ a w := by
  have inj := inj_of_nodup hd'
  have hmk : ∀ i, inH st.heap i = true → memN (keysN st.heap) i = true := fun i hi => by rw [mem_keys]; exact hi
  -- where a new number comes from
  let back : Nat → Nat := fun j => nthN (keysN st.heap) (posN ((keysN st.heap).map σ) j)
  have memmap : ∀ {l : List Nat} {x : Nat}, memN l x = true → memN (l.map σ) (σ x) = true := by
    intro l
    induction l with
    | nil => intro x h; cases h
    | cons y q ih =>
      intro x h
      simp only [memN, List.map_cons, Bool.or_eq_true] at h ⊢
      rcases h with h | h
      · exact .inl (by rw [Nat.eq_of_beq_eq_true h]; simp [Nat.beq_eq])
      · exact .inr (ih h)
  have nthmap : ∀ {l : List Nat} {n : Nat}, n < l.length → nthN (l.map σ) n = σ (nthN l n) := by
    intro l
    induction l with
    | nil => intro n h; simp at h
    | cons y q ih =>
      intro n h
      cases n with
      | zero => rfl
      | succ n => exact ih (by simpa using h)
  have hback : ∀ i, inH st.heap i = true → back (σ i) = i := by
    intro i hi
    have h1 := hmk i hi
    obtain ⟨e1, e2⟩ := nth_pos (memmap h1)
    have e2' : posN ((keysN st.heap).map σ) (σ i) < (keysN st.heap).length := by simpa using e2
    rw [nthmap e2'] at e1
    refine inj _ _ (mem_nth e2') h1 e1
  let ν' : Env := fun j => if memN ((keysN st.heap).map σ) j = true then ν (back j) else ν j
  have hν : ∀ i, inH st.heap i = true → ν' (σ i) = ν i := by
    intro i hi
    show (if memN ((keysN st.heap).map σ) (σ i) = true then ν (back (σ i)) else _) = _
    rw [if_pos (memmap (hmk i hi)), hback i hi]
  have hcore : ∀ i, inH st.heap i = true → (ν' (σ i)).core = (ν i).core := fun i hi => by rw [hν i hi]
  have hlook : ∀ i b, look (renHp σ st.heap) i = some b → ∃ j b0, look st.heap j = some b0 ∧ i = σ j ∧ b = b0.ren σ := by
    intro i b e
    obtain ⟨j, b0, h1, h2, h3⟩ := renHp_mem (mem_of_look e)
    exact ⟨j, b0, look_mem_nodup hd h1, h2, h3⟩
  have hin : ∀ {i b}, look st.heap i = some b → inH st.heap i = true := fun e => by unfold inH; rw [e]; rfl
  have hlt : ∀ i, inH st.heap i = true → lt next' (σ i) = true := fun i hi => lt_iff.2 (hσ i hi).2
  refine ⟨ν', ⟨hs.1.size, ?_, ?_, hs.1.defers, ⟨?_, ?_⟩, ?_, ?_, hs.1.prog, ?_, ?_, hs.1.gl⟩, hn⟩
  · intro t ht
    simp only [renTm_get, V.ren_junk] at ht
    exact hs.1.dom t ht
  · intro t ht
    simp only [renTm_get, V.ren_junk] at ht ⊢
    rw [hs.1.tmp t ht, V.ren_den (p := inH st.heap) hcore _ (hT t ht)]
  · intro i b e
    obtain ⟨j, b0, h1, rfl, rfl⟩ := hlook i b e
    exact Blk.ren_den (p := inH st.heap) hcore (by rw [hν j (hin h1)]) (by rw [hν j (hin h1)]) (hH j b0 h1) (hs.1.rel.den j b0 h1)
  · intro i j bi bj ne ei ej ho k hk hk'
    obtain ⟨i0, b0, h1, rfl, rfl⟩ := hlook i bi ei
    obtain ⟨j0, b1, h2, rfl, rfl⟩ := hlook j bj ej
    rw [hν i0 (hin h1)] at hk
    rw [hν j0 (hin h2)] at hk'
    rw [Blk.ren_owned] at ho
    exact hs.1.rel.dis i0 j0 b0 b1 (fun e => ne (by rw [e])) h1 h2 ho k hk hk'
  · intro t ht
    simp only [renTm_get, V.ren_junk] at ht ⊢
    exact V.ren_ok (p := inH st.heap) hlt _ (hT t ht)
  · intro i b e
    obtain ⟨j, b0, h1, rfl, rfl⟩ := hlook i b e
    exact ⟨Blk.ren_ok (p := inH st.heap) hlt _ (hH j b0 h1), hlt j (hin h1)⟩
  · intro i b e ho k hk
    obtain ⟨j, b0, h1, rfl, rfl⟩ := hlook i b e
    rw [hν j (hin h1)] at hk
    rw [Blk.ren_owned] at ho
    exact hs.1.own j b0 h1 ho k hk
  · intro i hi
    rw [← hs.1.base i hi]
    show (if memN ((keysN st.heap).map σ) i = true then ν (back i) else ν i).core = _
    by_cases q : memN ((keysN st.heap).map σ) i = true
    · rw [if_pos q]
      obtain ⟨e1, e2⟩ := nth_pos q
      have e2' : posN ((keysN st.heap).map σ) i < (keysN st.heap).length := by simpa using e2
      rw [nthmap e2'] at e1
      have hb : inH st.heap (back i) = true := by rw [← mem_keys]; exact mem_nth e2'
      have e3 : σ (back i) = i := e1
      rcases (hσ (back i) hb).1 with h | h
      · rw [h] at e3; rw [e3]
      · omega
    · rw [if_neg q]
/-! ### loops whose blocks change their numbers -/
/-- where a block that is kept at the loop's head is found: at the same number, or by a place of the state that leads to it -/
inductive Src where
  | same
  | cell (i n : Nat)
  | tmp (t : Nat)
  | path (i : Nat) (l : List Nat)
def idOf : V → Option Nat
  | .sub i _ _ _ => some i
  | .ptr i _ => some i
  | .sl i _ _ _ => some i
  | _ => none
def unIf : V → V
  | .iface _ v => v
  | v => v
/-- one step on a path: a part of a value, or a cell behind a place -/
def stepV (h : Heap) (n : Nat) (v : V) : Option V :=
  match unIf v with
  | .agg l => l[n]?
  | .ptr i _ => match Eng.look h i with
    | some (.cells _ l) => l[n]?
    | _ => none
  | _ => none
def walkV (h : Heap) : List Nat → V → Option Nat
  | [], v => idOf (unIf v)
  | n :: r, v => (stepV h n v).bind (walkV h r)
def srcN (st : St) (j : Nat) : Src → Option Nat
  | .same => some j
  | .tmp t => idOf (getT st.tmps t)
  | .cell i n => match Eng.look st.heap i with
    | some (.cells _ l) => (l[n]?).bind idOf
    | _ => none
  | .path i l => walkV st.heap l (.ptr i 0)
def srcsN (st : St) : List (Nat × Src) → Option (List Nat)
  | [] => some []
  | (j, x) :: r => match srcN st j x, srcsN st r with
    | some i, some l => some (i :: l)
    | _, _ => none
def ren0 (K ss : List Nat) (i : Nat) : Nat := nthN K (posN ss i)
def okR (K ss : List Nat) (m M : Nat) (s : St) : Bool :=
  (s.tmps.all fun p => p.2.isJunk || p.2.ok (inH s.heap)) && (s.heap.all fun p => p.2.ok (inH s.heap)) && nodupN (keysN s.heap) && nodupN K && ((keysN s.heap).all fun i => (Nat.beq (ren0 K ss i) i || Nat.ble m (ren0 K ss i)) && Nat.blt (ren0 K ss i) M) && Nat.ble m M
def keysR (S0 : List (Nat × Src)) : List Nat := S0.map (·.1)
/-- a state with all forgotten but these slots and blocks, the blocks by their numbers at the loop's head -/
def wkStR (T0 : List Nat) (S0 : List (Nat × Src)) (m M : Nat) (st : St) : T St :=
  opt (srcsN st S0) fun ss => (wkSt T0 ss st.next st).bind fun s =>
    if okR (keysR S0) ss m M s = true ∧ (keysN s.heap).map (ren0 (keysR S0) ss) = keysR S0 then .ret ⟨renTm (ren0 (keysR S0) ss) s.tmps, renHp (ren0 (keysR S0) ss) s.heap, M, s.size⟩ else .fail
theorem wkStR_some {T0 : List Nat} {S0 : List (Nat × Src)} {m M : Nat} {st st' : St} (h : (wkStR T0 S0 m M st).eval = some st') : ∃ ss s, (wkSt T0 ss st.next st).eval = some s ∧ okR (keysR S0) ss m M s = true ∧
    (keysN s.heap).map (ren0 (keysR S0) ss) = keysR S0 ∧ st' = ⟨renTm (ren0 (keysR S0) ss) s.tmps, renHp (ren0 (keysR S0) ss) s.heap, M, s.size⟩ := by
  obtain ⟨ss, h1, h⟩ := opt_eval h
  obtain ⟨s, h2, h⟩ := T.eval_bind_some h
  split at h
  · rename_i hc
    simp only [T.eval, Option.some.injEq] at h
    exact ⟨ss, s, h2, hc.1, hc.2, h.symm⟩
  · cases h
theorem getT_mem : ∀ {l : Tm} {t : Nat}, (getT l t).isJunk = false → ∃ p ∈ l, p.2 = getT l t
  | [], t, h => by simp [getT, V.isJunk] at h
  | (j, v) :: r, t, h => by
    simp only [getT] at h ⊢
    split
    · exact ⟨(j, v), List.mem_cons_self, rfl⟩
    · rename_i q
      rw [if_neg q] at h
      obtain ⟨p, h1, h2⟩ := getT_mem h
      exact ⟨p, List.mem_cons_of_mem _ h1, h2⟩
theorem memN_mem : ∀ {l : List Nat} {i : Nat}, memN l i = true → i ∈ l
  | k :: r, i, h => by
    simp only [memN, Bool.or_eq_true] at h
    rcases h with h | h
    · rw [Nat.eq_of_beq_eq_true h]; exact List.mem_cons_self
    · exact List.mem_cons_of_mem _ (memN_mem h)
theorem wkStR_says {T0 : List Nat} {S0 : List (Nat × Src)} {m M : Nat} {ν0 : Env} {n0 : Nat} {w0 : World} {F0 : Nat → Prop} {ν : Env} {st st' : St} {a : Act} {w : World} (hs : Says ν0 n0 w0 F0 ν st a w) (hn : n0 ≤ m)
    (h : (wkStR T0 S0 m M st).eval = some st') : ∃ ν', Says ν0 n0 w0 F0 ν' st' a w := by
  obtain ⟨ss, s, h1, h2, h3, rfl⟩ := wkStR_some h
  unfold okR at h2
  simp only [Bool.and_eq_true] at h2
  obtain ⟨⟨⟨⟨⟨c1, c2⟩, c3⟩, c4⟩, c5⟩, c6⟩ := h2
  have hs1 := wkSt_says hs hs.2 h1
  refine Says.ren hs1 (fun t ht => ?_) (fun i b e => List.all_eq_true.1 c2 _ (mem_of_look e)) c3 (by rw [h3]; exact c4) (fun i hi => ?_) (Nat.le_trans hn (Nat.le_of_ble_eq_true c6))
  · obtain ⟨p, q1, q2⟩ := getT_mem ht
    have := List.all_eq_true.1 c1 p q1
    rw [q2, ht] at this
    simpa using this
  · have := List.all_eq_true.1 c5 i (memN_mem (by rw [mem_keys]; exact hi))
    simp only [Bool.and_eq_true, Bool.or_eq_true] at this
    refine ⟨?_, by have := this.2; rwa [Nat.blt_eq] at this⟩
    rcases this.1 with q | q
    · exact .inl (Nat.eq_of_beq_eq_true q)
    · exact .inr (Nat.le_trans hn (Nat.le_of_ble_eq_true q))
theorem wkStR_mem {T0 : List Nat} {S0 : List (Nat × Src)} {m M : Nat} {st st' : St} (h : (wkStR T0 S0 m M st).eval = some st') : ∀ i b, look st'.heap i = some b → i ∈ keysR S0 := by
  obtain ⟨ss, s, h1, h2, h3, rfl⟩ := wkStR_some h
  intro i b e
  rw [← h3, ← keys_renHp]
  refine memN_mem ?_
  rw [mem_keys]
  unfold inH
  rw [e]; rfl
theorem wkStR_inv {T0 : List Nat} {S0 : List (Nat × Src)} {m M : Nat} {st st' : St} (h : (wkStR T0 S0 m M st).eval = some st') : Inv st' ∧ st'.next = M ∧ m ≤ M ∧ st'.size = st.size := by
  obtain ⟨ss, s, h1, h2, h3, rfl⟩ := wkStR_some h
  unfold okR at h2
  simp only [Bool.and_eq_true] at h2
  obtain ⟨⟨⟨⟨⟨c1, c2⟩, c3⟩, c4⟩, c5⟩, c6⟩ := h2
  refine ⟨fun i b e => ?_, rfl, Nat.le_of_ble_eq_true c6, ?_⟩
  · obtain ⟨j, b0, q1, rfl, rfl⟩ := renHp_mem (mem_of_look e)
    have hk : inH s.heap j = true := by
      unfold inH; rw [look_mem_nodup c3 q1]; rfl
    have := List.all_eq_true.1 c5 j (memN_mem (by rw [mem_keys]; exact hk))
    simp only [Bool.and_eq_true] at this
    have := this.2
    rwa [Nat.blt_eq] at this
  · obtain ⟨hp, e, h1'⟩ := opt_eval h1
    simp only [T.eval, Option.some.injEq] at h1'
    subst h1'; rfl
theorem renTm_keys {σ : Nat → Nat} : ∀ l : Tm, (renTm σ l).map (·.1) = l.map (·.1)
  | [] => rfl
  | (t, v) :: r => by simp only [renTm, List.map_cons, renTm_keys r]
theorem wkStR_mk {T0 : List Nat} {S0 : List (Nat × Src)} {m M : Nat} {st s : St} (h : (wkStR T0 S0 m M st).eval = some s) : s = mkSt T0 (keysR S0) M s.size (s.tmps.map (·.2)) (s.heap.map (·.2)) := by
  obtain ⟨ss, s1, h1, h2, h3, rfl⟩ := wkStR_some h
  unfold mkSt
  congr 1
  · refine zipK_self ?_
    rw [renTm_keys]
    obtain ⟨hp, e, h1'⟩ := opt_eval h1
    simp only [T.eval, Option.some.injEq] at h1'
    subst h1'
    exact wkTmps_keys _
  · refine zipK_self ?_
    show keysN (renHp _ s1.heap) = _
    rw [keys_renHp, h3]
def roundR (C : Cfg) (Λ : Loops) (body : Code) (T0 : List Nat) (S0 : List (Nat × Src)) (m M : Nat) (st : St) : T (Ex × St) :=
  (exec C Λ body st).bind fun x => (wkStR T0 S0 m M x.2).bind fun s => .ret (x.1, s)
def FamR (C : Cfg) (Λ : Loops) (body : Code) (T0 : List Nat) (S0 : List (Nat × Src)) (m M : Nat) {α : Type} (F : α → St) (step : α → T (Way α)) : Prop :=
  ∀ a x, (step a).eval = some x → (roundR C Λ body T0 S0 m M (F a)).eval = some (x.at F)
theorem famR_rounds {C : Cfg} (hC : C.Ok) (hm : C.P.follows .mixedOrders = true) {Λ : Loops} {c : Code} (hl : LoopsOk C Λ c) {T0 : List Nat} {S0 : List (Nat × Src)} {m M : Nat} {α : Type} {F : α → St} {step : α → T (Way α)} (hf : FamR C Λ c T0 S0 m M F step)
    {ν0 : Env} {n0 : Nat} {w0 : World} {F0 : Nat → Prop} (hn : n0 ≤ m) {Q : Exit → Act → World → Prop} :
    ∀ (n : Nat) (d : α) (r : Ex × St) (ν : Env) (a : Act) (w : World), (iter step n d).eval = some r → Says ν0 n0 w0 F0 ν (F d) a w → (∀ ν' a' w', Says ν0 n0 w0 F0 ν' r.2 a' w' → Q r.1.to a' w') → Code.rounds C.P c Q n a w
  | 0, d, r, ν, a, w, h, hs, hq => by cases h
  | n + 1, d, r, ν, a, w, h, hs, hq => by
    unfold iter at h
    obtain ⟨x, h1, h⟩ := T.eval_bind_some h
    obtain ⟨y, h2, h3⟩ := T.eval_bind_some (hf d x h1)
    obtain ⟨s, h4, h5⟩ := T.eval_bind_some h3
    simp only [T.eval, Option.some.injEq] at h5
    show c.wp C.P (Exit.then (Code.rounds C.P c Q n) Q) a w
    refine exec_ok hC hm c (F d) y _ ν a w hl h2 hs ?_
    intro ν' a' w' hs'
    obtain ⟨ν2, hs2⟩ := wkStR_says hs' hn h4
    cases x with
    | next d' =>
      simp only [Way.at, Prod.mk.injEq] at h5
      obtain ⟨e1, rfl⟩ := h5
      rw [e1]
      exact famR_rounds hC hm hl hf hn n d' r ν2 a' w' h hs2 hq
    | out e s' =>
      simp only [Way.at, Prod.mk.injEq] at h5
      obtain ⟨e1, rfl⟩ := h5
      rw [e1]
      cases e with
      | normal => cases h
      | exit i => simp only [T.eval, Option.some.injEq] at h; subst h; exact hq ν2 a' w' hs2
      | ret => simp only [T.eval, Option.some.injEq] at h; subst h; exact hq ν2 a' w' hs2
def famRL {α : Type} (T0 : List Nat) (S0 : List (Nat × Src)) (m M sz : Nat) (dec : List V → List Blk → Option α) (res : α → T (Ex × St)) : LSpec := fun st =>
  (wkStR T0 S0 m M st).bind fun s => if Nat.beq st.size sz && Nat.ble st.next m && apartB st.heap (keysR S0) then opt (dec (s.tmps.map (·.2)) (s.heap.map (·.2))) fun d => (res d).bind fun r => .ret (r.1, withLeaves st.heap r.2) else .fail
theorem iterR_blocks {C : Cfg} {Λ : Loops} {c : Code} {T0 : List Nat} {S0 : List (Nat × Src)} {m M : Nat} {α : Type} {F : α → St} {step : α → T (Way α)} (hf : FamR C Λ c T0 S0 m M F step) :
    ∀ (n : Nat) (d : α) (r : Ex × St), (iter step n d).eval = some r → ∃ st, (wkStR T0 S0 m M st).eval = some r.2
  | 0, d, r, h => by cases h
  | n + 1, d, r, h => by
    unfold iter at h
    obtain ⟨x, h1, h⟩ := T.eval_bind_some h
    cases x with
    | next d' => exact iterR_blocks hf n d' r h
    | out e s =>
      obtain ⟨y, h2, h3⟩ := T.eval_bind_some (hf d _ h1)
      obtain ⟨s', h4, h5⟩ := T.eval_bind_some h3
      simp only [T.eval, Option.some.injEq, Way.at, Prod.mk.injEq] at h5
      obtain ⟨e1, rfl⟩ := h5
      cases e with
      | normal => cases h
      | exit i => simp only [T.eval, Option.some.injEq] at h; subst h; exact ⟨_, h4⟩
      | ret => simp only [T.eval, Option.some.injEq] at h; subst h; exact ⟨_, h4⟩
theorem famRL_ok {C : Cfg} (hC : C.Ok) (hm : C.P.follows .mixedOrders = true) {Λ : Loops} {c : Code} (hl : LoopsOk C Λ c) {T0 : List Nat} {S0 : List (Nat × Src)} {m M sz : Nat} {α : Type} {vs : α → List V} {bs : α → List Blk} {step : α → T (Way α)}
    (hf : FamR C Λ c T0 S0 m M (fun d => mkSt T0 (keysR S0) M sz (vs d) (bs d)) step) {dec : List V → List Blk → Option α} {res : α → T (Ex × St)} (hd : ∀ l b d, dec l b = some d → l = vs d ∧ b = bs d) (hr : ∀ d r, (res d).eval = some r → ∃ n, (iter step n d).eval = some r) :
    LoopOk C c (famRL T0 S0 m M sz dec res) := by
  have open' : ∀ (st : St) (r : Ex × St), (famRL T0 S0 m M sz dec res st).eval = some r → ∃ s d r0 n, (wkStR T0 S0 m M st).eval = some s ∧ st.next ≤ m ∧ apartB st.heap (keysR S0) = true ∧ s = mkSt T0 (keysR S0) M sz (vs d) (bs d) ∧ (iter step n d).eval = some r0 ∧ r = (r0.1, withLeaves st.heap r0.2) := by
    intro st r h
    obtain ⟨s, h1, h⟩ := T.eval_bind_some h
    split at h
    · rename_i hc
      simp only [Bool.and_eq_true] at hc
      obtain ⟨d, h2, h⟩ := opt_eval h
      obtain ⟨r0, h3, h⟩ := T.eval_bind_some h
      simp only [T.eval, Option.some.injEq] at h
      obtain ⟨n, hn⟩ := hr d r0 h3
      have hsz : s.size = sz := by rw [(wkStR_inv h1).2.2.2]; exact Nat.eq_of_beq_eq_true hc.1.1
      have hmk := wkStR_mk h1
      obtain ⟨e1, e2⟩ := hd _ _ _ h2
      rw [hsz, e1, e2] at hmk
      exact ⟨s, d, r0, n, h1, Nat.le_of_ble_eq_true hc.1.2, hc.2, hmk, hn, h.symm⟩
    · cases h
  refine ⟨fun st r h ν0 n0 w0 F0 ν a w Q hs hq => ?_, fun st r h hi => ?_⟩
  · obtain ⟨s, d, r0, n, h1, h3, h4, rfl, h5, rfl⟩ := open' st r h
    have hsr := hs.rebase
    obtain ⟨ν1, hs1⟩ := wkStR_says hsr h3 h1
    refine wp_loop_rounds n (famR_rounds hC hm hl hf h3 n d r0 ν1 a w h5 hs1 ?_)
    intro ν' a' w' hs'
    obtain ⟨q, hq1⟩ := iterR_blocks hf n d r0 h5
    obtain ⟨ν'', hs''⟩ := withLeaves_says (h := st.heap) (fun i b hb => lt_iff.1 (hs.1.okH i b hb).2) (fun i c hc => (hs.1.rel.den i _ hc).1) hs' (by rw [(wkStR_inv hq1).2.1]; exact Nat.le_trans h3 (wkStR_inv hq1).2.2.1) (fun i c hc => by
      cases e : look r0.2.heap i with
      | none => rfl
      | some b => exact absurd (wkStR_mem hq1 i b e) (apartB_of h4 hc))
    refine hq ν'' a' w' (hs.back hs.2 hs'' ?_)
    rintro k ⟨i, b, hb, ho, hk⟩
    exact hs.1.own i b hb ho k hk
  · obtain ⟨s, d, r0, n, h1, h3, h4, rfl, h5, rfl⟩ := open' st r h
    obtain ⟨q, hq1⟩ := iterR_blocks hf n d r0 h5
    have hM : m ≤ r0.2.next := by rw [(wkStR_inv hq1).2.1]; exact (wkStR_inv hq1).2.2.1
    refine ⟨fun i b hb => ?_, fun i c hc => ?_⟩
    · simp only [withLeaves, look_append, over] at hb
      show i < r0.2.next
      cases e : look r0.2.heap i with
      | some b' => exact (wkStR_inv hq1).1 i b' e
      | none =>
        rw [e] at hb
        exact Nat.lt_of_lt_of_le (hi i b (look_lvs.2 b hb).1) (Nat.le_trans h3 hM)
    · simp only [withLeaves, look_append, over]
      cases e : look r0.2.heap i with
      | some b' => exact absurd (wkStR_mem hq1 i b' e) (apartB_of h4 hc)
      | none => exact look_lvs.1 c hc (look_mem_ids hc)
noncomputable def famWR {P A : Type} (T0 : List Nat) (S0 : List (Nat × Src)) (m M sz : Nat) (dec : List V → List Blk → Option (P × A)) (inv : P → A → Bool) (nxt : P → A → Option A) (out : P → A → T (Ex × St)) : LSpec :=
  famRL T0 S0 m M sz dec (resW inv nxt out)
theorem famWR_ok {C : Cfg} (hC : C.Ok) (hm : C.P.follows .mixedOrders = true) {Λ : Loops} {c : Code} (hl : LoopsOk C Λ c) {T0 : List Nat} {S0 : List (Nat × Src)} {m M sz : Nat} {P A : Type} {vs : P → A → List V} {bs : P → A → List Blk}
    {inv : P → A → Bool} {nxt : P → A → Option A} {out : P → A → T (Ex × St)} {dec : List V → List Blk → Option (P × A)}
    (hd : ∀ l b d, dec l b = some d → l = vs d.1 d.2 ∧ b = bs d.1 d.2) (μ : P → A → Nat)
    (hs : ∀ p a b, inv p a = true → nxt p a = some b → inv p b = true ∧ μ p b < μ p a)
    (hr : ∀ p a, inv p a = true → (∀ b, nxt p a = some b → (roundR C Λ c T0 S0 m M (mkSt T0 (keysR S0) M sz (vs p a) (bs p a))).eval = some (.normal, mkSt T0 (keysR S0) M sz (vs p b) (bs p b))) ∧
      (nxt p a = none → ∀ r, (out p a).eval = some r → r.1 ≠ .normal ∧ (roundR C Λ c T0 S0 m M (mkSt T0 (keysR S0) M sz (vs p a) (bs p a))).eval = some r)) :
    LoopOk C c (famWR T0 S0 m M sz dec inv nxt out) := by
  refine famRL_ok hC hm hl (vs := fun d => vs d.1 d.2) (bs := fun d => bs d.1 d.2) (step := stepW inv nxt out) (fun d x hx => ?_) hd fun d r h => ?_
  · obtain ⟨p, a⟩ := d
    unfold stepW at hx
    cases hi : inv p a
    · simp only [hi] at hx; cases hx
    · simp only [hi] at hx
      cases hn : nxt p a with
      | some b =>
        simp only [hn] at hx
        obtain rfl := Option.some.inj hx
        exact (hr p a hi).1 b hn
      | none =>
        simp only [hn] at hx
        obtain ⟨r, h1, h2⟩ := T.eval_bind_some (show ((out p a).bind fun r => .ret (.out r.1 r.2)).eval = some x from hx)
        obtain rfl := Option.some.inj h2
        exact ((hr p a hi).2 hn r h1).2
  · obtain ⟨p, a⟩ := d
    unfold resW at h
    cases hi : inv p a
    · simp only [hi] at h; cases h
    · simp only [hi] at h
      have h' : (out p (endW (nxt p) a)).eval = some r := h
      have hI : ∀ a b, inv p a = true → nxt p a = some b → inv p b = true ∧ μ p b < μ p a := fun a b h e => hs p a b h e
      obtain ⟨e, he⟩ := runW_some hI (μ p a) a hi (Nat.le_refl _)
      rw [endW_eq he] at h'
      refine ⟨μ p a + 1, ?_⟩
      clear h
      generalize μ p a = n at he
      clear hI
      induction n generalizing a with
      | zero =>
        unfold runW at he
        unfold iter
        rw [T.eval_bind]
        cases hn : nxt p a <;> rw [hn] at he
        · simp only [Option.some.injEq] at he
          subst he
          rw [stepW_none hi hn h']
          have := ((hr p a hi).2 hn r h').1
          obtain ⟨r1, r2⟩ := r
          cases r1 <;> first | rfl | exact absurd rfl this
        · cases he
      | succ n ih =>
        unfold runW at he
        unfold iter
        rw [T.eval_bind]
        cases hn : nxt p a with
        | none =>
          rw [hn] at he
          simp only [Option.some.injEq] at he
          subst he
          rw [stepW_none hi hn h']
          have := ((hr p a hi).2 hn r h').1
          obtain ⟨r1, r2⟩ := r
          cases r1 <;> first | rfl | exact absurd rfl this
        | some b =>
          rw [hn] at he
          rw [stepW_some hi hn]
          exact ih b (hs p a b hi hn).1 he
end Go.Eng

/- The machine: nil slices that a contract leaves in an object, read as empty rows of the object's own. No program is named here. -/
namespace Go.Eng
set_option linter.unusedSectionVars false
variable [Go.Eng.GW]
open Go.RowKit
set_option linter.unusedVariables false
set_option linter.unusedSimpArgs false
def maxK : Heap → Nat
  | [] => 0
  | (i, _) :: r => i + maxK r
theorem maxK_le : ∀ {h : Heap} {i : Nat} {b : Blk}, (i, b) ∈ h → i ≤ maxK h
  | (j, c) :: r, i, b, hm => by
    unfold maxK
    rcases List.mem_cons.1 hm with h | h
    · cases h; omega
    · have := maxK_le h; omega
def putAt (i : Nat) (b : Blk) : Heap → Heap
  | [] => []
  | (j, c) :: r => (j, if Nat.beq j i then b else c) :: putAt i b r
theorem look_putAt {i : Nat} {b : Blk} : ∀ {h : Heap} {j : Nat}, look (putAt i b h) j = (look h j).map fun c => if Nat.beq j i then b else c
  | [], j => rfl
  | (k, c) :: r, j => by
    simp only [putAt, look]
    by_cases e : (k == j) = true
    · have : k = j := by simpa using e
      subst this; simp
    · rw [if_neg e, if_neg e]; exact look_putAt
/-- a nil slice in cell n of block i as an empty row of its own -/
def adoptH (i n : Nat) (e : TypeId) (ks : List K) (h0 : Heap) (r : V × Heap) : T (V × Heap) :=
  match Eng.look r.2 i with
  | some (.cells t l) => match l[n]? with
    | some .nilSl => if outO h0 r.1 r.2 = true then .ret (r.1, putAt i (.cells t (l.set n (.sub (maxK r.2 + h0.length + 1) ks.length 0 0))) r.2 ++ [(maxK r.2 + h0.length + 1, .lst true e ks [])]) else .fail
    | _ => .fail
  | none => .ret r
  | _ => .fail
theorem denL_set (ν : Env) : ∀ (l : List V) (n : Nat) (v : V), denL ν (l.set n v) = (denL ν l).set n (v.den ν)
  | [], n, v => by simp [denL]
  | x :: r, 0, v => by simp [denL]
  | x :: r, n + 1, v => by simp [denL, denL_set ν r n v]
theorem denL_get (ν : Env) : ∀ (l : List V) (n : Nat), (denL ν l)[n]? = (l[n]?).map (V.den ν)
  | [], n => by simp [denL]
  | x :: r, 0 => by simp [denL]
  | x :: r, n + 1 => by simp [denL, denL_get ν r n]
theorem set_same {α : Type} : ∀ (l : List α) (n : Nat) (x : α), l[n]? = some x → l.set n x = l
  | [], n, x, h => by simp at h
  | y :: r, 0, x, h => by simp at h; simp [h]
  | y :: r, n + 1, x, h => by simp only [List.set_cons_succ]; rw [set_same r n x (by simpa using h)]
theorem ObjOk.adopt {P : Program} {f : Nat} {sp : Obj} (h : ObjOk P f sp) (i n : Nat) (e : TypeId) (ks : List K) : ObjOk P f (fun args h0 => (sp args h0).bind (adoptH i n e ks h0)) := by
  refine ⟨h.body, fun args h0 v h'' ν w hG hF hoa hoh hrel hv hout => ?_⟩
  obtain ⟨⟨v0, h'⟩, h1, h2⟩ := T.eval_bind_some hv
  unfold adoptH at h2
  split at h2
  · rename_i t l hi
    split at h2
    · rename_i hn
      split at h2
      · rename_i ho
        simp only [T.eval, Option.some.injEq, Prod.mk.injEq] at h2
        obtain ⟨rfl, rfl⟩ := h2
        simp only at hi hn ho ⊢
        generalize hK : maxK h' + h0.length + 1 = K at *
        refine (h.calls args h0 v0 h' ν w hG hF hoa hoh hrel h1 ho).mono ?_
        rintro ex w' ⟨ν', rfl, hcore, hr, hown, hprog⟩
        have hKn : ∀ j, inO h0 h' j = true → j ≠ K := by
          intro j hj e
          subst e
          unfold inO at hj
          simp only [Bool.or_eq_true] at hj
          rcases hj with hj | hj
          · obtain ⟨b, hb⟩ := Option.isSome_iff_exists.1 hj
            have := maxK_le (mem_of_look hb); omega
          · cases q : look h0 j with
            | none => rw [q] at hj; cases hj
            | some b => have := (hoh j b q).2; omega
        have hKk : ∀ j b, look h' j = some b → j ≠ K := fun j b e2 => hKn j (by unfold inO inH; rw [e2]; rfl)
        let ν2 : Env := fun j => if j = K then ⟨⟨0, 0, 0, none, false⟩, fun _ => False⟩ else ν' j
        have n1 : ν2 K = ⟨⟨0, 0, 0, none, false⟩, fun _ => False⟩ := by simp [ν2]
        have n2 : ∀ j, j ≠ K → ν2 j = ν' j := fun j hj => by simp [ν2, hj]
        unfold outO at ho
        simp only [Bool.and_eq_true] at ho
        have hvd : v0.den ν' = v0.den ν2 := V.den_congr (p := inO h0 h') (fun j hj => by rw [n2 j (hKn j hj)]) v0 ho.1
        have hok : ∀ j b, look h' j = some b → b.ok (inO h0 h') = true := fun j b e2 => by
          have := List.all_eq_true.1 ho.2 _ (mem_of_look e2)
          simp only [Bool.and_eq_true] at this
          exact this.1.2
        have hlk : ∀ j b, look (putAt i (.cells t (l.set n (.sub K ks.length 0 0))) h' ++ [(K, Blk.lst true e ks [])]) j = some b → (j = K ∧ b = .lst true e ks []) ∨ (j ≠ K ∧ ∃ c, look h' j = some c ∧ b = if Nat.beq j i then .cells t (l.set n (.sub K ks.length 0 0)) else c) := by
          intro j b e2
          rw [look_append] at e2
          unfold over at e2
          rw [look_putAt] at e2
          cases q : look h' j with
          | some c =>
            rw [q] at e2
            simp only [Option.map_some, Option.some.injEq] at e2
            exact .inr ⟨hKk j c q, c, rfl, e2.symm⟩
          | none =>
            rw [q] at e2
            simp only [Option.map_none, look] at e2
            by_cases q2 : (K == j) = true
            · simp only [q2, if_true, Option.some.injEq] at e2
              exact .inl ⟨by simpa using (show K = j by simpa using q2).symm, e2.symm⟩
            · simp [q2] at e2
        have hden : ∀ j c, look h' j = some c → (if Nat.beq j i then Blk.cells t (l.set n (.sub K ks.length 0 0)) else c).den ν2 (ν2 j) w' := by
          intro j c e2
          have hd := Blk.den_congr (p := inO h0 h') (ν' := ν2) (σ' := ν2 j) (fun m hm => by rw [n2 m (hKn m hm)]) (by rw [n2 j (hKk j c e2)]) (by rw [n2 j (hKk j c e2)]) (hok j c e2) (hr.den j c e2)
          split
          · rename_i hji
            have : j = i := Nat.eq_of_beq_eq_true hji
            subst this
            rw [hi] at e2
            cases e2
            obtain ⟨d1, d2, d3⟩ := hd
            refine ⟨d1, d2, ?_⟩
            have hs : denL ν2 (l.set n (.sub K ks.length 0 0)) = denL ν2 l := by
              rw [denL_set]
              refine set_same _ _ _ ?_
              rw [denL_get, hn]
              simp [V.den, n1]
            rw [hs]; exact d3
          · exact hd
        refine ⟨ν2, by rw [hvd], fun j hj => ?_, ⟨fun j b e2 => ?_, fun j m bj bm ne ej em ho2 k hk hk' => ?_⟩, fun j b e2 k hk => ?_, hprog⟩
        · have : j ≠ K := by
            obtain ⟨b, hb⟩ := Option.isSome_iff_exists.1 hj
            have := (hoh j b hb).2; omega
          rw [n2 j this]; exact hcore j hj
        · rcases hlk j b e2 with ⟨rfl, rfl⟩ | ⟨_, c, q1, rfl⟩
          · rw [n1]
            exact ⟨ownsB_nil w' 0 e ks.length, fun k => ⟨fun h => h.elim, by rintro ⟨a, ha, _⟩; cases ha⟩⟩
          · exact hden j c q1
        · rcases hlk j bj ej with ⟨rfl, rfl⟩ | ⟨q0, c, q1, rfl⟩
          · rw [n1] at hk; exact hk
          · rcases hlk m bm em with ⟨rfl, rfl⟩ | ⟨r0, d, r1, rfl⟩
            · rw [n1] at hk'; exact hk'
            · rw [n2 j q0] at hk
              rw [n2 m r0] at hk'
              refine hr.dis j m c d ne q1 r1 ?_ k hk hk'
              have := List.all_eq_true.1 ho.2 _ (mem_of_look q1)
              simp only [Bool.and_eq_true] at this
              exact this.1.1
        · rcases hlk j b e2 with ⟨rfl, rfl⟩ | ⟨q0, c, q1, rfl⟩
          · rw [n1] at hk; exact hk.elim
          · rw [n2 j q0] at hk; exact hown j c q1 k hk
      · cases h2
    · cases h2
  · simp only [T.eval, Option.some.injEq, Prod.mk.injEq] at h2
    obtain ⟨rfl, rfl⟩ := h2
    exact h.calls args h0 v0 h' ν w hG hF hoa hoh hrel h1 hout
  · cases h2
end Go.Eng

/- The machine: a nil slice in a slot, read as an empty row of the state's own, ahead of a loop. No program is named here. -/
namespace Go.Eng
set_option linter.unusedSectionVars false
variable [Go.Eng.GW]
open Go.RowKit
set_option linter.unusedVariables false
set_option linter.unusedSimpArgs false
def adoptT (t : Nat) (e : TypeId) (ks : List K) (st : St) : T St :=
  match getT st.tmps t with
  | .nilSl => .ret ⟨(t, .sub st.next ks.length 0 0) :: st.tmps, (st.next, .lst true e ks []) :: st.heap, st.next + 1, st.size⟩
  | _ => .ret st
theorem adoptT_says {ν0 : Env} {n0 : Nat} {w0 : World} {F0 : Nat → Prop} {ν : Env} {st st' : St} {a : Act} {w : World} {t : Nat} {e : TypeId} {ks : List K} (hs : Says ν0 n0 w0 F0 ν st a w) (h : (adoptT t e ks st).eval = some st') : ∃ ν', Says ν0 n0 w0 F0 ν' st' a w := by
  unfold adoptT at h
  split at h
  · rename_i hn
    simp only [T.eval, Option.some.injEq] at h
    subst h
    obtain ⟨hr, hn0⟩ := hs
    let ν2 : Env := fun j => if j = st.next then ⟨⟨0, 0, 0, none, false⟩, fun _ => False⟩ else ν j
    have n1 : ν2 st.next = ⟨⟨0, 0, 0, none, false⟩, fun _ => False⟩ := by simp [ν2]
    have n2 : ∀ j, j ≠ st.next → ν2 j = ν j := fun j hj => by simp [ν2, hj]
    have n3 : ∀ j, lt st.next j = true → ν2 j = ν j := fun j hj => n2 j (by have := lt_iff.1 hj; omega)
    have mono : ∀ j, lt st.next j = true → lt (st.next + 1) j = true := fun j hj => lt_iff.2 (by have := lt_iff.1 hj; omega)
    have hlk : ∀ j b, look ((st.next, Blk.lst true e ks []) :: st.heap) j = some b → (j = st.next ∧ b = .lst true e ks []) ∨ (j ≠ st.next ∧ look st.heap j = some b) := by
      intro j b e2
      simp only [look] at e2
      by_cases q : (st.next == j) = true
      · rw [if_pos q] at e2
        exact .inl ⟨(by simpa using q : st.next = j).symm, (Option.some.inj e2).symm⟩
      · rw [if_neg q] at e2
        exact .inr ⟨fun e => q (by simp [e]), e2⟩
    refine ⟨ν2, ⟨hr.size, ?_, ?_, hr.defers, ⟨?_, ?_⟩, ?_, ?_, hr.prog, ?_, ?_, hr.gl⟩, by show n0 ≤ st.next + 1; omega⟩
    · intro j hj
      by_cases q : t = j
      · subst q; exact hr.dom t (by rw [hn]; rfl)
      · simp only [getT, show (t == j) = false by simpa using q] at hj
        exact hr.dom j (by simpa using hj)
    · intro j hj
      by_cases q : t = j
      · subst q
        rw [hr.tmp t (by rw [hn]; rfl), hn]
        simp [getT, V.den, n1]
      · simp only [getT, show (t == j) = false by simpa using q] at hj ⊢
        rw [hr.tmp j (by simpa using hj)]
        exact V.den_congr (p := lt st.next) (fun i hi => by rw [n3 i hi]) _ (hr.okT j (by simpa using hj))
    · intro i b e2
      rcases hlk i b e2 with ⟨rfl, rfl⟩ | ⟨q, e3⟩
      · rw [n1]
        exact ⟨ownsB_nil w 0 e ks.length, fun k => ⟨fun h => h.elim, by rintro ⟨a, ha, _⟩; cases ha⟩⟩
      · obtain ⟨o1, o2⟩ := hr.okH i b e3
        exact Blk.den_congr (p := lt st.next) (ν' := ν2) (σ' := ν2 i) (fun m hm => by rw [n3 m hm]) (by rw [n2 i q]) (by rw [n2 i q]) o1 (hr.rel.den i b e3)
    · intro i j bi bj ne ei ej ho k hk hk'
      rcases hlk i bi ei with ⟨rfl, rfl⟩ | ⟨q, e3⟩
      · rw [n1] at hk; exact hk
      · rcases hlk j bj ej with ⟨rfl, rfl⟩ | ⟨q', e4⟩
        · rw [n1] at hk'; exact hk'
        · rw [n2 i q] at hk
          rw [n2 j q'] at hk'
          exact hr.rel.dis i j bi bj ne e3 e4 ho k hk hk'
    · intro j hj
      by_cases q : t = j
      · subst q
        simp only [getT, beq_self_eq_true, if_true, V.ok]
        exact lt_iff.2 (Nat.lt_succ_self _)
      · simp only [getT, show (t == j) = false by simpa using q] at hj ⊢
        exact V.ok_mono mono _ (hr.okT j (by simpa using hj))
    · intro i b e2
      rcases hlk i b e2 with ⟨rfl, rfl⟩ | ⟨q, e3⟩
      · exact ⟨rfl, lt_iff.2 (Nat.lt_succ_self _)⟩
      · obtain ⟨o1, o2⟩ := hr.okH i b e3
        refine ⟨?_, mono i o2⟩
        exact Blk.ok_mono mono o1
    · intro i b e2 ho k hk
      rcases hlk i b e2 with ⟨rfl, rfl⟩ | ⟨q, e3⟩
      · rw [n1] at hk; exact hk.elim
      · rw [n2 i q] at hk; exact hr.own i b e3 ho k hk
    · intro i hi
      rw [n2 i (by omega)]; exact hr.base i hi
  · simp only [T.eval, Option.some.injEq] at h
    subst h
    exact ⟨ν, hs⟩
theorem LoopOk.adopt {C : Cfg} {body : Code} {sp : LSpec} (h : LoopOk C body sp) (t : Nat) (e : TypeId) (ks : List K) : LoopOk C body (fun st => (adoptT t e ks st).bind sp) := by
  refine ⟨fun st r hr ν0 n0 w0 F0 ν a w Q hs hq => ?_, fun st r hr hi => ?_⟩
  · obtain ⟨st', h1, h2⟩ := T.eval_bind_some hr
    obtain ⟨ν', hs'⟩ := adoptT_says hs h1
    exact h.run st' r h2 ν0 n0 w0 F0 ν' a w Q hs' hq
  · obtain ⟨st', h1, h2⟩ := T.eval_bind_some hr
    unfold adoptT at h1
    split at h1
    · simp only [T.eval, Option.some.injEq] at h1
      subst h1
      obtain ⟨k1, k2⟩ := h.keep _ r h2 (fun i b e2 => by
        simp only [look] at e2
        show i < st.next + 1
        split at e2
        · rename_i q
          have : st.next = i := by simpa using q
          omega
        · have := hi i b e2; omega)
      refine ⟨k1, fun i c hc => k2 i c ?_⟩
      have hlt := hi i _ hc
      simp only [look]
      rw [if_neg (by simp; omega)]
      exact hc
    · simp only [T.eval, Option.some.injEq] at h1
      subst h1
      exact h.keep st r h2 hi
end Go.Eng

