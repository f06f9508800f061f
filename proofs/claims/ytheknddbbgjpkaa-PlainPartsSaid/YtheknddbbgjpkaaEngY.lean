/- The machine: what was lent is taken back, at a round's end and at a function's. No program is named here. -/
import Derived.Test.YtheknddbbgjpkaaEngJ
namespace Go.Eng
open Go.RowKit
set_option linter.unusedVariables false
set_option linter.unusedSimpArgs false
/-! ### a contract -/
def dropN (j : Option Nat) : Heap → Heap
  | [] => []
  | (i, b) :: r => match j with
    | some j => if Nat.beq i j then dropN (some j) r else (i, b) :: dropN (some j) r
    | none => (i, b) :: r
theorem look_dropN {j : Option Nat} : ∀ {h : Heap} {m : Nat}, look (dropN j h) m = if j = some m then none else look h m
  | [], m => by simp [dropN, look]
  | (i, b) :: r, m => by
    cases j with
    | none => simp [dropN]
    | some j =>
      simp only [dropN, Option.some.injEq]
      have ih := look_dropN (j := some j) (h := r) (m := m)
      simp only [Option.some.injEq] at ih
      by_cases q : Nat.beq i j = true
      · rw [if_pos q, ih]
        have q' := Nat.eq_of_beq_eq_true q
        subst q'
        by_cases e : i = m
        · rw [if_pos e, if_pos e]
        · rw [if_neg e, if_neg e]; simp [look, e]
      · rw [if_neg q]
        have q' : i ≠ j := fun e => q (by rw [e]; simp [Nat.beq_eq])
        simp only [look]
        by_cases e : (i == m) = true
        · rw [if_pos e]
          have : i = m := by simpa using e
          rw [if_neg (by rw [← this]; exact fun h => q' h.symm)]
          simp [e]
        · rw [if_neg e, ih]
          by_cases e2 : j = m
          · rw [if_pos e2, if_pos e2]
          · rw [if_neg e2, if_neg e2, if_neg e]
/-- block i takes back what it lent -/
def settleO (i : Nat) (h0 : Heap) (r : V × Heap) : T (V × Heap) :=
  match back1 (Eng.look r.2) i with
  | some (b, j) => if outO h0 r.1 r.2 = true then .ret (r.1, dropN j (putAt i b r.2)) else .fail
  | none => .ret r
theorem ObjOk.settle {P : Program} {f : Nat} {sp : Obj} (h : ObjOk P f sp) (i : Nat) : ObjOk P f (fun args h0 => (sp args h0).bind (settleO i h0)) := by
  refine ⟨h.body, fun args h0 v h'' ν w hoa hoh hrel hv hout => ?_⟩
  obtain ⟨⟨v0, h'⟩, h1, h2⟩ := T.eval_bind_some hv
  unfold settleO at h2
  split at h2
  · rename_i b j hb
    simp only at hb
    split at h2
    · rename_i ho
      simp only [T.eval, Option.some.injEq, Prod.mk.injEq] at h2
      obtain ⟨rfl, rfl⟩ := h2
      simp only at ho hout ⊢
      refine (h.calls args h0 v0 h' ν w hoa hoh hrel h1 ho).mono ?_
      rintro e w' ⟨ν', e1, e2, e3, e4, e5⟩
      have hok : ∀ m c, look h' m = some c → c.ok (inO h0 h') = true ∧ c.owned = true := fun m c hm => by
        unfold outO at ho
        simp only [Bool.and_eq_true] at ho
        have := List.all_eq_true.1 ho.2 _ (mem_of_look hm)
        simp only [Bool.and_eq_true] at this
        exact ⟨this.1.2, this.1.1⟩
      obtain ⟨o1, o2, ⟨bi, hi, oi⟩, o3, ν2, q1, q2, q3, q4, q5⟩ := back1_rel (fun m c hm => (hok m c hm).1) e3 hb
      have lk : ∀ m c, look (dropN j (putAt i b h')) m = some c → j ≠ some m ∧ ((m = i ∧ c = b) ∨ (m ≠ i ∧ look h' m = some c)) := by
        intro m c hm
        rw [look_dropN] at hm
        split at hm
        · cases hm
        · rename_i hne
          refine ⟨hne, ?_⟩
          rw [look_putAt] at hm
          obtain ⟨c0, hc0, hc⟩ := Option.map_eq_some_iff.1 hm
          by_cases e : Nat.beq m i = true
          · rw [if_pos e] at hc
            exact .inl ⟨Nat.eq_of_beq_eq_true e, hc.symm⟩
          · rw [if_neg e] at hc
            exact .inr ⟨fun h => e (by rw [h]; simp [Nat.beq_eq]), by rw [hc0, hc]⟩
      refine ⟨ν2, ?_, fun m hm => by rw [q1 m]; exact e2 m hm, q5 _ (fun m c r1 r2 hm => ?_) (fun c hm => ?_) (fun m hj c hm => ?_), fun m c hm k hk => ?_, e5⟩
      · rw [e1]
        have : v0.ok (inO h0 h') = true := by
          unfold outO at ho
          simp only [Bool.and_eq_true] at ho
          exact ho.1
        rw [V.den_congr (p := inO h0 h') (fun m _ => (q1 m).symm) v0 this]
      · rcases (lk m c hm).2 with ⟨r, _⟩ | ⟨_, r⟩
        · exact absurd r r1
        · exact r
      · rcases (lk i c hm).2 with ⟨_, r⟩ | ⟨r, _⟩
        · exact r
        · exact absurd rfl r
      · exact absurd hj (lk m c hm).1
      · rcases (lk m c hm).2 with ⟨rfl, rfl⟩ | ⟨r1, r2⟩
        · rcases q3 k hk with r | ⟨n, hn, r⟩
          · exact e4 _ _ hi k r
          · obtain ⟨_, b0, hb0, _⟩ := o3 n hn
            exact e4 n b0 hb0 k r
        · rw [q2 m r1 (lk m c hm).1] at hk
          exact e4 m c r2 k hk
    · cases h2
  · simp only [T.eval, Option.some.injEq, Prod.mk.injEq] at h2
    obtain ⟨rfl, rfl⟩ := h2
    exact h.calls args h0 _ _ ν w hoa hoh hrel h1 hout
/-- a block that the result does not want is left out -/
def lessO (i : Nat) (h0 : Heap) (r : V × Heap) : T (V × Heap) := if outO h0 r.1 r.2 = true then .ret (r.1, dropN (some i) r.2) else .fail
theorem ObjOk.less {P : Program} {f : Nat} {sp : Obj} (h : ObjOk P f sp) (i : Nat) : ObjOk P f (fun args h0 => (sp args h0).bind (lessO i h0)) := by
  refine ⟨h.body, fun args h0 v h'' ν w hoa hoh hrel hv hout => ?_⟩
  obtain ⟨⟨v0, h'⟩, h1, h2⟩ := T.eval_bind_some hv
  unfold lessO at h2
  split at h2
  · rename_i ho
    simp only [T.eval, Option.some.injEq, Prod.mk.injEq] at h2
    obtain ⟨rfl, rfl⟩ := h2
    simp only at ho hout ⊢
    refine (h.calls args h0 v0 h' ν w hoa hoh hrel h1 ho).mono ?_
    rintro e w' ⟨ν', e1, e2, e3, e4, e5⟩
    have lk : ∀ m c, look (dropN (some i) h') m = some c → look h' m = some c := by
      intro m c hm
      rw [look_dropN] at hm
      split at hm
      · cases hm
      · exact hm
    exact ⟨ν', e1, e2, ⟨fun m c hm => e3.den m c (lk m c hm), fun m n bm bn ne hm hn => e3.dis m n bm bn ne (lk m _ hm) (lk n _ hn)⟩, fun m c hm => e4 m c (lk m c hm), e5⟩
  · cases h2
/-- a block that nothing speaks of is left out -/
def tidyO (i : Nat) (h0 : Heap) (r : V × Heap) : T (V × Heap) := if (outO h0 r.1 r.2 && outO h0 r.1 (dropN (some i) r.2)) = true then .ret (r.1, dropN (some i) r.2) else .ret r
theorem ObjOk.tidy {P : Program} {f : Nat} {sp : Obj} (h : ObjOk P f sp) (i : Nat) : ObjOk P f (fun args h0 => (sp args h0).bind (tidyO i h0)) := by
  refine ⟨h.body, fun args h0 v h'' ν w hoa hoh hrel hv hout => ?_⟩
  obtain ⟨⟨v0, h'⟩, h1, h2⟩ := T.eval_bind_some hv
  unfold tidyO at h2
  split at h2
  · rename_i ho
    simp only [Bool.and_eq_true] at ho
    refine (h.less i).calls args h0 v h'' ν w hoa hoh hrel ?_ hout
    rw [T.eval_bind, h1]
    show (lessO i h0 (v0, h')).eval = _
    unfold lessO
    rw [if_pos ho.1]
    exact h2
  · simp only [T.eval, Option.some.injEq, Prod.mk.injEq] at h2
    obtain ⟨rfl, rfl⟩ := h2
    exact h.calls args h0 _ _ ν w hoa hoh hrel h1 hout
end Go.Eng
