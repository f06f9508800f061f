/- The machine: a nil slice in a slot, read as an empty row of the state's own, ahead of a loop. No program is named here. -/
import Derived.Test.YtheknddbbgjpkaaEngI
namespace Go.Eng
open Go.RowKit
set_option linter.unusedVariables false
set_option linter.unusedSimpArgs false
def adoptT (t : Nat) (e : TypeId) (ks : List K) (st : St) : T St :=
  match getT st.tmps t with
  | .nilSl => .ret ⟨(t, .sub st.next ks.length 0 0) :: st.tmps, (st.next, .lst true e ks []) :: st.heap, st.next + 1, st.size⟩
  | _ => .ret st
theorem adoptT_says {ν0 : Env} {n0 : Nat} {w0 : World} {F0 : Nat → Prop} {ν : Env} {st st' : St} {a : Act} {w : World} {t : Nat} {e : TypeId} {ks : List K} (hs : Says ν0 n0 w0 F0 ν st a w) (h : (adoptT t e ks st).eval = some st') : ∃ ν', Says ν0 n0 w0 F0 ν' st' a w := by
  unfold adoptT at h
  split at h
  · rename_i hn
    simp only [T.eval, Option.some.injEq] at h
    subst h
    obtain ⟨hr, hn0⟩ := hs
    let ν2 : Env := fun j => if j = st.next then ⟨⟨0, 0, 0, none, false⟩, fun _ => False⟩ else ν j
    have n1 : ν2 st.next = ⟨⟨0, 0, 0, none, false⟩, fun _ => False⟩ := by simp [ν2]
    have n2 : ∀ j, j ≠ st.next → ν2 j = ν j := fun j hj => by simp [ν2, hj]
    have n3 : ∀ j, lt st.next j = true → ν2 j = ν j := fun j hj => n2 j (by have := lt_iff.1 hj; omega)
    have mono : ∀ j, lt st.next j = true → lt (st.next + 1) j = true := fun j hj => lt_iff.2 (by have := lt_iff.1 hj; omega)
    have hlk : ∀ j b, look ((st.next, Blk.lst true e ks []) :: st.heap) j = some b → (j = st.next ∧ b = .lst true e ks []) ∨ (j ≠ st.next ∧ look st.heap j = some b) := by
      intro j b e2
      simp only [look] at e2
      by_cases q : (st.next == j) = true
      · rw [if_pos q] at e2
        exact .inl ⟨(by simpa using q : st.next = j).symm, (Option.some.inj e2).symm⟩
      · rw [if_neg q] at e2
        exact .inr ⟨fun e => q (by simp [e]), e2⟩
    refine ⟨ν2, ⟨hr.size, ?_, ?_, hr.defers, ⟨?_, ?_⟩, ?_, ?_, hr.prog, ?_, ?_⟩, by show n0 ≤ st.next + 1; omega⟩
    · intro j hj
      by_cases q : t = j
      · subst q; exact hr.dom t (by rw [hn]; rfl)
      · simp only [getT, show (t == j) = false by simpa using q] at hj
        exact hr.dom j (by simpa using hj)
    · intro j hj
      by_cases q : t = j
      · subst q
        rw [hr.tmp t (by rw [hn]; rfl), hn]
        simp [getT, V.den, n1]
      · simp only [getT, show (t == j) = false by simpa using q] at hj ⊢
        rw [hr.tmp j (by simpa using hj)]
        exact V.den_congr (p := lt st.next) (fun i hi => by rw [n3 i hi]) _ (hr.okT j (by simpa using hj))
    · intro i b e2
      rcases hlk i b e2 with ⟨rfl, rfl⟩ | ⟨q, e3⟩
      · rw [n1]
        exact ⟨ownsB_nil w 0 e ks.length, fun k => ⟨fun h => h.elim, by rintro ⟨a, ha, _⟩; cases ha⟩⟩
      · obtain ⟨o1, o2⟩ := hr.okH i b e3
        exact Blk.den_congr (p := lt st.next) (ν' := ν2) (σ' := ν2 i) (fun m hm => by rw [n3 m hm]) (by rw [n2 i q]) (by rw [n2 i q]) o1 (hr.rel.den i b e3)
    · intro i j bi bj ne ei ej ho k hk hk'
      rcases hlk i bi ei with ⟨rfl, rfl⟩ | ⟨q, e3⟩
      · rw [n1] at hk; exact hk
      · rcases hlk j bj ej with ⟨rfl, rfl⟩ | ⟨q', e4⟩
        · rw [n1] at hk'; exact hk'
        · rw [n2 i q] at hk
          rw [n2 j q'] at hk'
          exact hr.rel.dis i j bi bj ne e3 e4 ho k hk hk'
    · intro j hj
      by_cases q : t = j
      · subst q
        simp only [getT, beq_self_eq_true, if_true, V.ok]
        exact lt_iff.2 (Nat.lt_succ_self _)
      · simp only [getT, show (t == j) = false by simpa using q] at hj ⊢
        exact V.ok_mono mono _ (hr.okT j (by simpa using hj))
    · intro i b e2
      rcases hlk i b e2 with ⟨rfl, rfl⟩ | ⟨q, e3⟩
      · exact ⟨rfl, lt_iff.2 (Nat.lt_succ_self _)⟩
      · obtain ⟨o1, o2⟩ := hr.okH i b e3
        refine ⟨?_, mono i o2⟩
        exact Blk.ok_mono mono o1
    · intro i b e2 ho k hk
      rcases hlk i b e2 with ⟨rfl, rfl⟩ | ⟨q, e3⟩
      · rw [n1] at hk; exact hk.elim
      · rw [n2 i q] at hk; exact hr.own i b e3 ho k hk
    · intro i hi
      rw [n2 i (by omega)]; exact hr.base i hi
  · simp only [T.eval, Option.some.injEq] at h
    subst h
    exact ⟨ν, hs⟩
theorem LoopOk.adopt {C : Cfg} {body : Code} {sp : LSpec} (h : LoopOk C body sp) (t : Nat) (e : TypeId) (ks : List K) : LoopOk C body (fun st => (adoptT t e ks st).bind sp) := by
  refine ⟨fun st r hr ν0 n0 w0 F0 ν a w Q hs hq => ?_, fun st r hr hi => ?_⟩
  · obtain ⟨st', h1, h2⟩ := T.eval_bind_some hr
    obtain ⟨ν', hs'⟩ := adoptT_says hs h1
    exact h.run st' r h2 ν0 n0 w0 F0 ν' a w Q hs' hq
  · obtain ⟨st', h1, h2⟩ := T.eval_bind_some hr
    unfold adoptT at h1
    split at h1
    · simp only [T.eval, Option.some.injEq] at h1
      subst h1
      obtain ⟨k1, k2⟩ := h.keep _ r h2 (fun i b e2 => by
        simp only [look] at e2
        show i < st.next + 1
        split at e2
        · rename_i q
          have : st.next = i := by simpa using q
          omega
        · have := hi i b e2; omega)
      refine ⟨k1, fun i c hc => k2 i c ?_⟩
      have hlt := hi i _ hc
      simp only [look]
      rw [if_neg (by simp; omega)]
      exact hc
    · simp only [T.eval, Option.some.injEq] at h1
      subst h1
      exact h.keep st r h2 hi
end Go.Eng
