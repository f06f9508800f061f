/- The machine: a nil slice in a block's cell, read as an empty row of the state's own, ahead of a loop. No program is named here. -/
import Derived.Test.YtheknddbbgjpkaaEngO
namespace Go.Eng
open Go.RowKit
set_option linter.unusedVariables false
set_option linter.unusedSimpArgs false
def adoptC (i n : Nat) (e : TypeId) (ks : List K) (st : St) : T St :=
  match Eng.look st.heap i with
  | some (.cells t l) => match l[n]? with
    | some .nilSl => .ret ⟨st.tmps, (i, .cells t (l.set n (.sub st.next ks.length 0 0))) :: (st.next, .lst true e ks []) :: st.heap, st.next + 1, st.size⟩
    | _ => .ret st
  | _ => .ret st
theorem okL_set {p : Nat → Bool} {l : List V} {n : Nat} {v : V} (h : okL p l = true) (hv : v.ok p = true) : okL p (l.set n v) = true := by
  rw [okL_iff] at h ⊢
  intro x hx
  rcases List.mem_or_eq_of_mem_set hx with q | rfl
  · exact h x q
  · exact hv
theorem adoptC_says {ν0 : Env} {n0 : Nat} {w0 : World} {F0 : Nat → Prop} {ν : Env} {st st' : St} {a : Act} {w : World} {i n : Nat} {e : TypeId} {ks : List K} (hs : Says ν0 n0 w0 F0 ν st a w) (h : (adoptC i n e ks st).eval = some st') : ∃ ν', Says ν0 n0 w0 F0 ν' st' a w := by
  unfold adoptC at h
  split at h
  · rename_i t l hL
    split at h
    · rename_i hn
      simp only [T.eval, Option.some.injEq] at h
      subst h
      obtain ⟨hr, hn0⟩ := hs
      let ν2 : Env := fun j => if j = st.next then ⟨⟨0, 0, 0, none, false⟩, fun _ => False⟩ else ν j
      have n1 : ν2 st.next = ⟨⟨0, 0, 0, none, false⟩, fun _ => False⟩ := by simp [ν2]
      have n2 : ∀ j, j ≠ st.next → ν2 j = ν j := fun j hj => by simp [ν2, hj]
      have n3 : ∀ j, lt st.next j = true → ν2 j = ν j := fun j hj => n2 j (by have := lt_iff.1 hj; omega)
      have mono : ∀ j, lt st.next j = true → lt (st.next + 1) j = true := fun j hj => lt_iff.2 (by have := lt_iff.1 hj; omega)
      have hi : i ≠ st.next := by have := lt_iff.1 (hr.okH i _ hL).2; omega
      have subD : V.den ν2 (.sub st.next ks.length 0 0) = .slice none 0 0 := by rw [sub_den0, n1]
      have hlk : ∀ j b, look ((i, .cells t (l.set n (.sub st.next ks.length 0 0))) :: (st.next, Blk.lst true e ks []) :: st.heap) j = some b → (j = i ∧ b = .cells t (l.set n (.sub st.next ks.length 0 0))) ∨ (j = st.next ∧ b = .lst true e ks []) ∨ (j ≠ st.next ∧ j ≠ i ∧ look st.heap j = some b) := by
        intro j b e2
        simp only [look] at e2
        by_cases q0 : (i == j) = true
        · rw [if_pos q0] at e2
          exact .inl ⟨(by simpa using q0 : i = j).symm, (Option.some.inj e2).symm⟩
        rw [if_neg q0] at e2
        by_cases q : (st.next == j) = true
        · rw [if_pos q] at e2
          exact .inr (.inl ⟨(by simpa using q : st.next = j).symm, (Option.some.inj e2).symm⟩)
        · rw [if_neg q] at e2
          exact .inr (.inr ⟨fun e => q (by simp [e]), fun e => q0 (by simp [e]), e2⟩)
      refine ⟨ν2, ⟨hr.size, hr.dom, ?_, hr.defers, ⟨?_, ?_⟩, ?_, ?_, hr.prog, ?_, ?_⟩, by show n0 ≤ st.next + 1; omega⟩
      · intro j hj
        rw [hr.tmp j hj]
        exact V.den_congr (p := lt st.next) (fun i hi => by rw [n3 i hi]) _ (hr.okT j hj)
      · intro j b e2
        rcases hlk j b e2 with ⟨rfl, rfl⟩ | ⟨rfl, rfl⟩ | ⟨q, _, e3⟩
        · have o1 := (hr.okH j _ hL).1
          have d := Blk.den_congr (p := lt st.next) (ν' := ν2) (σ' := ν2 j) (fun m hm => by rw [n3 m hm]) (by rw [n2 j hi]) (by rw [n2 j hi]) o1 (hr.rel.den j _ hL)
          obtain ⟨d1, d2, d3⟩ := d
          refine ⟨d1, d2, ?_⟩
          have : denL ν2 (l.set n (.sub st.next ks.length 0 0)) = denL ν2 l := by
            rw [denL_set, subD]
            apply set_same
            rw [denL_get, hn]; rfl
          rw [this]; exact d3
        · rw [n1]
          exact ⟨ownsB_nil w 0 e ks.length, fun k => ⟨fun h => h.elim, by rintro ⟨a, ha, _⟩; cases ha⟩⟩
        · obtain ⟨o1, o2⟩ := hr.okH j b e3
          exact Blk.den_congr (p := lt st.next) (ν' := ν2) (σ' := ν2 j) (fun m hm => by rw [n3 m hm]) (by rw [n2 j q]) (by rw [n2 j q]) o1 (hr.rel.den j b e3)
      · have old : ∀ j b, look ((i, .cells t (l.set n (.sub st.next ks.length 0 0))) :: (st.next, Blk.lst true e ks []) :: st.heap) j = some b → j = st.next ∨ (j ≠ st.next ∧ ∃ b0, look st.heap j = some b0 ∧ b0.owned = b.owned) := by
          intro j b e2
          rcases hlk j b e2 with ⟨rfl, rfl⟩ | ⟨rfl, rfl⟩ | ⟨q, _, e3⟩
          · exact .inr ⟨hi, _, hL, rfl⟩
          · exact .inl rfl
          · exact .inr ⟨q, b, e3, rfl⟩
        intro j1 j2 b1 b2 ne e1 e2 ho k hk hk'
        rcases old j1 b1 e1 with rfl | ⟨q, c1, f1, g1⟩
        · rw [n1] at hk; exact hk
        · rcases old j2 b2 e2 with rfl | ⟨q', c2, f2, g2⟩
          · rw [n1] at hk'; exact hk'
          · rw [n2 j1 q] at hk
            rw [n2 j2 q'] at hk'
            exact hr.rel.dis j1 j2 c1 c2 ne f1 f2 (by rw [g1]; exact ho) k hk hk'
      · intro j hj
        exact V.ok_mono mono _ (hr.okT j hj)
      · intro j b e2
        rcases hlk j b e2 with ⟨rfl, rfl⟩ | ⟨rfl, rfl⟩ | ⟨q, _, e3⟩
        · obtain ⟨o1, o2⟩ := hr.okH j _ hL
          exact ⟨okL_set (okL_mono mono l o1) (lt_iff.2 (Nat.lt_succ_self _)), mono j o2⟩
        · exact ⟨rfl, lt_iff.2 (Nat.lt_succ_self _)⟩
        · obtain ⟨o1, o2⟩ := hr.okH j b e3
          refine ⟨?_, mono j o2⟩
          exact Blk.ok_mono mono o1
      · intro j b e2 ho k hk
        rcases hlk j b e2 with ⟨rfl, rfl⟩ | ⟨rfl, rfl⟩ | ⟨q, _, e3⟩
        · rw [n2 j hi] at hk; exact hr.own j _ hL rfl k hk
        · rw [n1] at hk; exact hk.elim
        · rw [n2 j q] at hk; exact hr.own j b e3 ho k hk
      · intro j hj
        rw [n2 j (by omega)]; exact hr.base j hj
    · simp only [T.eval, Option.some.injEq] at h
      subst h
      exact ⟨ν, hs⟩
  · simp only [T.eval, Option.some.injEq] at h
    subst h
    exact ⟨ν, hs⟩
theorem adoptC_keep {i n : Nat} {e : TypeId} {ks : List K} {st st' : St} (h : (adoptC i n e ks st).eval = some st') (hi : Inv st) : Inv st' ∧ ∀ j c, Eng.look st.heap j = some (.leaf c) → Eng.look st'.heap j = some (.leaf c) := by
  unfold adoptC at h
  split at h
  · rename_i t l hL
    split at h
    · rename_i hn
      simp only [T.eval, Option.some.injEq] at h
      subst h
      refine ⟨fun j b e2 => ?_, fun j c hc => ?_⟩
      · simp only [look] at e2
        by_cases q0 : (i == j) = true
        · have : i = j := by simpa using q0
          subst this
          have := hi i _ hL
          show i < st.next + 1
          omega
        rw [if_neg q0] at e2
        by_cases q : (st.next == j) = true
        · have : st.next = j := by simpa using q
          subst this
          exact Nat.lt_succ_self _
        · rw [if_neg q] at e2
          have := hi j b e2
          show j < st.next + 1
          omega
      · have hne : i ≠ j := fun e => by subst e; rw [hL] at hc; cases hc
        have hlt := hi j _ hc
        simp only [look]
        rw [if_neg (by simpa using hne), if_neg (by simp; omega)]
        exact hc
    · simp only [T.eval, Option.some.injEq] at h
      subst h
      exact ⟨hi, fun _ _ h => h⟩
  · simp only [T.eval, Option.some.injEq] at h
    subst h
    exact ⟨hi, fun _ _ h => h⟩
theorem LoopOk.adoptC {C : Cfg} {body : Code} {sp : LSpec} (h : LoopOk C body sp) (i n : Nat) (e : TypeId) (ks : List K) : LoopOk C body (fun st => (Eng.adoptC i n e ks st).bind sp) := by
  refine ⟨fun st r hr ν0 n0 w0 F0 ν a w Q hs hq => ?_, fun st r hr hi => ?_⟩
  · obtain ⟨st1, h1, h2⟩ := T.eval_bind_some hr
    obtain ⟨ν', hs'⟩ := adoptC_says hs h1
    exact h.run st1 r h2 ν0 n0 w0 F0 ν' a w Q hs' hq
  · obtain ⟨st1, h1, h2⟩ := T.eval_bind_some hr
    obtain ⟨k1, k2⟩ := adoptC_keep h1 hi
    obtain ⟨m1, m2⟩ := h.keep st1 r h2 k1
    exact ⟨m1, fun j c hc => m2 j c (k2 j c hc)⟩
end Go.Eng
