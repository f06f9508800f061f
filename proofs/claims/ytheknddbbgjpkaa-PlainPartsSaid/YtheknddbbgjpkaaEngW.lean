/- The machine: what was lent is taken back: a state. No program is named here. -/
import Derived.Test.YtheknddbbgjpkaaEngB
namespace Go.Eng
open Go.RowKit
set_option linter.unusedVariables false
set_option linter.unusedSimpArgs false
def isLent : Blk → Bool
  | .bx _ _ _ _ _ _ (some _) => true
  | _ => false
/-- what becomes of a block that has lent a row: what it is then, and the block that it takes in -/
def back1 (L : Look) (i : Nat) : Option (Blk × Option Nat) :=
  match L i with
  | some (.bx t tp tb ks l g (some q)) => match L q.2 with
    | some (.cells tc cs) => if tc = tb then (match Row.of L ks cs with
        | some x => some (.bx t tp tb ks (l.set q.1 (some x)) g none, some q.2)
        | none => none) else none
    | _ => some (.bx t tp tb ks l (q.1 :: g) none, none)
  | _ => none
theorem back1_rel {ν : Env} {L : Look} {w : World} {p : Nat → Bool} {i : Nat} {b' : Blk} {j : Option Nat} (hok : ∀ i b, L i = some b → b.ok p = true) (hr : Rel ν L w) (h : back1 L i = some (b', j)) :
    b'.owned = true ∧ (∀ q : Nat → Bool, b'.ok q = true) ∧ (∃ b0, L i = some b0 ∧ b0.owned = true) ∧ (∀ m, j = some m → m ≠ i ∧ ∃ b0, L m = some b0 ∧ b0.owned = true) ∧
    ∃ ν' : Env, (∀ m, (ν' m).core = (ν m).core) ∧ (∀ m, m ≠ i → j ≠ some m → ν' m = ν m) ∧ (∀ k, (ν' i).fp k → (ν i).fp k ∨ ∃ m, j = some m ∧ (ν m).fp k) ∧ (∀ m, j = some m → ∀ k, ¬ (ν' m).fp k) ∧
      (∀ L' : Look, (∀ m b, m ≠ i → j ≠ some m → L' m = some b → L m = some b) → (∀ b, L' i = some b → b = b') → (∀ m, j = some m → ∀ b, L' m = some b → b = .dead) → Rel ν' L' w) := by
  unfold back1 at h
  split at h
  · rename_i t tp tb ks l g q hi
    split at h
    · rename_i tc cs hj
      split at h
      · rename_i ht
        subst ht
        split at h
        · rename_i x hx
          simp only [Option.some.injEq, Prod.mk.injEq] at h
          obtain ⟨rfl, rfl⟩ := h
          have hij : q.2 ≠ i := fun e => by rw [e, hi] at hj; cases hj
          obtain ⟨ν', h1, h2, h3, h4, h5⟩ := settleRel hok hr hi hj hx
          refine ⟨rfl, fun _ => rfl, ⟨_, hi, rfl⟩, fun m hm => by cases hm; exact ⟨hij, _, hj, rfl⟩, ν', h1, fun m q1 q2 => h2 m q1 (fun e => q2 (by rw [e])), fun k hk => (h3 k hk).imp id fun h => ⟨_, rfl, h⟩, fun m hm => by cases hm; exact h4, fun L' q1 q2 q3 => h5 L' (fun m b r1 r2 => q1 m b r1 (fun e => r2 (by cases e; rfl))) q2 (q3 _ rfl)⟩
        · cases h
      · cases h
    · simp only [Option.some.injEq, Prod.mk.injEq] at h
      obtain ⟨rfl, rfl⟩ := h
      obtain ⟨vals, box, d⟩ := hr.den i _ hi
      have hH : ∀ r y, Held l (q.1 :: g) none r y ↔ Held l g (some q) r y := fun r y =>
        ⟨fun ⟨h1, h2, _⟩ => ⟨h1, fun e => h2 (List.mem_cons_of_mem _ e), fun q' hq => by cases hq; exact fun e => h2 (by rw [← e]; exact List.mem_cons_self)⟩,
         fun ⟨h1, h2, h3⟩ => ⟨h1, fun e => by
          rcases List.mem_cons.1 e with e | e
          · exact h3 q rfl e.symm
          · exact h2 e, fun q' hq => by cases hq⟩⟩
      have hden : (Blk.bx t tp tb ks l (q.1 :: g) none).den ν (ν i) w := ⟨vals, box, d.own, fun r h1 h2 _ => d.emp r h1 (fun e => h2 (List.mem_cons_of_mem _ e)) (fun q' hq => by cases hq; exact fun e => h2 (by rw [← e]; exact List.mem_cons_self)),
        fun r y h => d.full r y ((hH r y).1 h), fun q' hq => (by cases hq), fun k => by
          rw [d.fp k]
          exact or_congr Iff.rfl ⟨fun ⟨r, y, h1, h2⟩ => ⟨r, y, (hH r y).2 h1, h2⟩, fun ⟨r, y, h1, h2⟩ => ⟨r, y, (hH r y).1 h1, h2⟩⟩,
        fun r y r' y' h1 h2 => d.inj r y r' y' ((hH r y).1 h1) ((hH r' y').1 h2), fun r y a h1 => d.apart r y a ((hH r y).1 h1)⟩
      refine ⟨rfl, fun _ => rfl, ⟨_, hi, rfl⟩, fun m hm => (by cases hm), ν, fun _ => rfl, fun _ _ _ => rfl, fun k hk => .inl hk, fun m hm => (by cases hm), fun L' q1 q2 _ => ⟨fun m b hm => ?_, fun m n bm bn ne hm hn ho => ?_⟩⟩
      · by_cases e : m = i
        · subst e; rw [q2 b hm]; exact hden
        · exact hr.den m b (q1 m b e (by intro h; cases h) hm)
      · have key : ∀ {m : Nat} {b : Blk}, L' m = some b → ∃ b0, L m = some b0 ∧ (b.owned = true → b0.owned = true) := by
          intro m b hm
          by_cases e : m = i
          · subst e; exact ⟨_, hi, fun _ => rfl⟩
          · exact ⟨b, q1 m b e (by intro h; cases h) hm, id⟩
        obtain ⟨b1, e1, e2⟩ := key hm
        obtain ⟨b2, e3, _⟩ := key hn
        exact hr.dis m n b1 b2 ne e1 e3 (e2 ho)
  · cases h
/-! ### a state -/
def deadO (j : Option Nat) : Heap := match j with
  | some j => [(j, .dead)]
  | none => []
def settle1 (i : Nat) (h : Heap) : Heap :=
  match back1 (look h) i with
  | some (b, j) => (i, b) :: deadO j ++ h
  | none => h
def settleL : List Nat → Heap → Heap
  | [], h => h
  | i :: r, h => settleL r (settle1 i h)
def settleSt (st : St) : St := if st.heap.any (fun p => isLent p.2) = true then ⟨st.tmps, settleL (keysN st.heap) st.heap, st.next, st.size⟩ else st
theorem settle1_says {ν0 : Env} {n0 : Nat} {w0 : World} {F0 : Nat → Prop} {ν : Env} {T : Tm} {h : Heap} {n sz i : Nat} {a : Act} {w : World} (hs : Says ν0 n0 w0 F0 ν ⟨T, h, n, sz⟩ a w) : ∃ ν', Says ν0 n0 w0 F0 ν' ⟨T, settle1 i h, n, sz⟩ a w := by
  unfold settle1
  split
  · rename_i b j hb
    obtain ⟨hr, hn0⟩ := hs
    obtain ⟨o1, o2, ⟨bi, hi, oi⟩, o3, ν', h1, h2, h3, h4, h5⟩ := back1_rel (fun i b e => (hr.okH i b e).1) hr.rel hb
    have lk : ∀ m c, look ((i, b) :: deadO j ++ h) m = some c → (m = i ∧ c = b) ∨ (m ≠ i ∧ j = some m ∧ c = .dead) ∨ (m ≠ i ∧ j ≠ some m ∧ look h m = some c) := by
      intro m c e
      simp only [List.cons_append, look] at e
      by_cases q : (i == m) = true
      · rw [if_pos q] at e
        exact .inl ⟨(by simpa using q : i = m).symm, (Option.some.inj e).symm⟩
      · rw [if_neg q] at e
        have q' : m ≠ i := fun e => q (by simp [e])
        cases j with
        | none => exact .inr (.inr ⟨q', (by intro h; cases h), e⟩)
        | some j =>
          simp only [deadO, List.cons_append, List.nil_append, look] at e
          by_cases q2 : (j == m) = true
          · rw [if_pos q2] at e
            exact .inr (.inl ⟨q', by rw [show j = m by simpa using q2], (Option.some.inj e).symm⟩)
          · rw [if_neg q2] at e
            exact .inr (.inr ⟨q', fun e => q2 (by cases e; simp), e⟩)
    have hden : ∀ v : V, v.ok (lt n) = true → v.den ν = v.den ν' := fun v hv => V.den_congr (p := lt n) (fun i _ => (h1 i).symm) v hv
    refine ⟨ν', ⟨hr.size, hr.dom, fun t ht => by rw [hr.tmp t ht, hden _ (hr.okT t ht)], hr.defers, h5 _ (fun m c q1 q2 e => ?_) (fun c e => ?_) (fun m hm c e => ?_), hr.okT, fun m c e => ?_, hr.prog, fun m c e ho k hk => ?_, fun m hm => by rw [h1 m]; exact hr.base m hm⟩, hn0⟩
    · rcases lk m c e with ⟨r1, _⟩ | ⟨_, r2, _⟩ | ⟨_, _, r3⟩
      · exact absurd r1 q1
      · exact absurd r2 q2
      · exact r3
    · rcases lk i c e with ⟨_, r2⟩ | ⟨r1, _⟩ | ⟨r1, _⟩
      · exact r2
      · exact absurd rfl r1
      · exact absurd rfl r1
    · rcases lk m c e with ⟨r1, _⟩ | ⟨_, _, r3⟩ | ⟨_, r2, _⟩
      · exact absurd r1 (o3 m hm).1
      · exact r3
      · exact absurd hm r2
    · rcases lk m c e with ⟨rfl, rfl⟩ | ⟨_, r2, rfl⟩ | ⟨_, _, r3⟩
      · exact ⟨o2 _, (hr.okH _ _ hi).2⟩
      · obtain ⟨_, b0, e0, _⟩ := o3 m r2
        exact ⟨rfl, (hr.okH _ _ e0).2⟩
      · exact hr.okH m c r3
    · rcases lk m c e with ⟨rfl, rfl⟩ | ⟨_, r2, rfl⟩ | ⟨q1, q2, r3⟩
      · rcases h3 k hk with q | ⟨m', hm', q⟩
        · exact hr.own _ _ hi oi k q
        · obtain ⟨_, b0, e0, e1⟩ := o3 m' hm'
          exact hr.own m' b0 e0 e1 k q
      · exact absurd hk (h4 m r2 k)
      · rw [h2 m q1 q2] at hk
        exact hr.own m c r3 ho k hk
  · exact ⟨ν, hs⟩
theorem settleL_says {ν0 : Env} {n0 : Nat} {w0 : World} {F0 : Nat → Prop} {T : Tm} {n sz : Nat} {a : Act} {w : World} : ∀ (l : List Nat) (h : Heap) (ν : Env), Says ν0 n0 w0 F0 ν ⟨T, h, n, sz⟩ a w → ∃ ν', Says ν0 n0 w0 F0 ν' ⟨T, settleL l h, n, sz⟩ a w
  | [], h, ν, hs => ⟨ν, hs⟩
  | i :: r, h, ν, hs => by
    obtain ⟨ν1, h1⟩ := settle1_says (i := i) hs
    exact settleL_says r _ ν1 h1
theorem settleSt_says {ν0 : Env} {n0 : Nat} {w0 : World} {F0 : Nat → Prop} {ν : Env} {st : St} {a : Act} {w : World} (hs : Says ν0 n0 w0 F0 ν st a w) : ∃ ν', Says ν0 n0 w0 F0 ν' (settleSt st) a w := by
  unfold settleSt
  split
  · exact settleL_says _ _ ν hs
  · exact ⟨ν, hs⟩
theorem settleSt_size (st : St) : (settleSt st).size = st.size := by unfold settleSt; split <;> rfl
theorem back1_keys {L : Look} {i : Nat} {b : Blk} {j : Option Nat} (h : back1 L i = some (b, j)) : (∃ t tp tb ks l g x, L i = some (.bx t tp tb ks l g x)) ∧ (∀ c, b ≠ .leaf c) ∧ ∀ m, j = some m → ∃ t l, L m = some (.cells t l) := by
  unfold back1 at h
  split at h
  · rename_i t tp tb ks l g q hi
    split at h
    · rename_i tc cs hj
      split at h
      · split at h
        · simp only [Option.some.injEq, Prod.mk.injEq] at h
          obtain ⟨rfl, rfl⟩ := h
          exact ⟨⟨_, _, _, _, _, _, _, hi⟩, (fun c e => by cases e), fun m hm => by cases hm; exact ⟨_, _, hj⟩⟩
        · cases h
      · cases h
    · simp only [Option.some.injEq, Prod.mk.injEq] at h
      obtain ⟨rfl, rfl⟩ := h
      exact ⟨⟨_, _, _, _, _, _, _, hi⟩, (fun c e => by cases e), fun m hm => by cases hm⟩
  · cases h
theorem settle1_look {i : Nat} {h : Heap} {m : Nat} {c : Blk} (e : look (settle1 i h) m = some c) : (∃ b, look h m = some b ∧ ∀ d, b ≠ .leaf d) ∧ (∀ d, c ≠ .leaf d) ∨ look h m = some c := by
  unfold settle1 at e
  split at e
  · rename_i b j hb
    obtain ⟨⟨t, tp, tb, ks, l, g, x, hi⟩, h2, h3⟩ := back1_keys hb
    simp only [List.cons_append, look] at e
    by_cases q : (i == m) = true
    · rw [if_pos q] at e
      obtain rfl : i = m := by simpa using q
      obtain rfl := Option.some.inj e
      exact .inl ⟨⟨_, hi, fun d e => by cases e⟩, h2⟩
    · rw [if_neg q] at e
      cases j with
      | none => exact .inr e
      | some j =>
        simp only [deadO, List.cons_append, List.nil_append, look] at e
        by_cases q2 : (j == m) = true
        · rw [if_pos q2] at e
          obtain rfl : j = m := by simpa using q2
          obtain rfl := Option.some.inj e
          obtain ⟨t', l', h4⟩ := h3 _ rfl
          exact .inl ⟨⟨_, h4, fun d e => by cases e⟩, fun d e => by cases e⟩
        · rw [if_neg q2] at e
          exact .inr e
  · exact .inr e
theorem settle1_leaf {i : Nat} {h : Heap} {m : Nat} {d : Bool} (e : look h m = some (.leaf d)) : look (settle1 i h) m = some (.leaf d) := by
  unfold settle1
  split
  · rename_i b j hb
    obtain ⟨⟨t, tp, tb, ks, l, g, x, hi⟩, h2, h3⟩ := back1_keys hb
    have q : ¬ (i == m) = true := fun q => by
      obtain rfl : i = m := by simpa using q
      rw [hi] at e; cases e
    simp only [List.cons_append, look]
    rw [if_neg q]
    cases j with
    | none => exact e
    | some j =>
      have q2 : ¬ (j == m) = true := fun q2 => by
        obtain rfl : j = m := by simpa using q2
        obtain ⟨t', l', h4⟩ := h3 _ rfl
        rw [h4] at e; cases e
      simp only [deadO, List.cons_append, List.nil_append, look]
      rw [if_neg q2]
      exact e
  · exact e
theorem settleL_keep : ∀ (l : List Nat) (h : Heap) (n : Nat), (∀ i b, look h i = some b → i < n) → (∀ i b, look (settleL l h) i = some b → i < n) ∧ ∀ i d, look h i = some (.leaf d) → look (settleL l h) i = some (.leaf d)
  | [], h, n, hi => ⟨hi, fun _ _ e => e⟩
  | j :: r, h, n, hi => by
    obtain ⟨k1, k2⟩ := settleL_keep r (settle1 j h) n fun i b e => by
      rcases settle1_look e with ⟨⟨b0, e0, _⟩, _⟩ | e0
      · exact hi i b0 e0
      · exact hi i b e0
    exact ⟨k1, fun i d e => k2 i d (settle1_leaf e)⟩
theorem settleSt_keep {st : St} (hi : Inv st) : Inv (settleSt st) ∧ ∀ i d, look st.heap i = some (.leaf d) → look (settleSt st).heap i = some (.leaf d) := by
  unfold settleSt
  split
  · exact settleL_keep _ _ _ hi
  · exact ⟨hi, fun _ _ e => e⟩
end Go.Eng
