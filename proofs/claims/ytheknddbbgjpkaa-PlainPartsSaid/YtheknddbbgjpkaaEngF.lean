/- The machine, sixth part: loops by what a round does, and a last state that the kernel cannot run. No program is named here. -/
import Derived.Test.YtheknddbbgjpkaaEngE
namespace Go.Eng
open Go.RowKit
set_option linter.unusedVariables false
set_option linter.unusedSimpArgs false

def runW {α : Type} (nxt : α → Option α) : Nat → α → Option α
  | 0, a => match nxt a with | none => some a | some _ => none
  | n + 1, a => match nxt a with | none => some a | some b => runW nxt n b
/-- where the rounds end -/
noncomputable def endW {α : Type} (nxt : α → Option α) (a : α) : α := @dite α (∃ b n, runW nxt n a = some b) (Classical.propDecidable _) (fun h => h.choose) (fun _ => a)
theorem runW_det {α : Type} {nxt : α → Option α} : ∀ {n m : Nat} {a b c : α}, runW nxt n a = some b → runW nxt m a = some c → b = c
  | 0, 0, a, b, c, h1, h2 => by rw [h1] at h2; exact Option.some.inj h2
  | 0, m + 1, a, b, c, h1, h2 => by
    unfold runW at h1 h2
    cases e : nxt a <;> rw [e] at h1 h2
    · simp_all
    · cases h1
  | n + 1, 0, a, b, c, h1, h2 => by
    unfold runW at h1 h2
    cases e : nxt a <;> rw [e] at h1 h2
    · simp_all
    · cases h2
  | n + 1, m + 1, a, b, c, h1, h2 => by
    unfold runW at h1 h2
    cases e : nxt a <;> rw [e] at h1 h2
    · simp_all
    · exact runW_det h1 h2
theorem endW_eq {α : Type} {nxt : α → Option α} {n : Nat} {a b : α} (h : runW nxt n a = some b) : endW nxt a = b := by
  have hx : ∃ b n, runW nxt n a = some b := ⟨b, n, h⟩
  unfold endW
  rw [dif_pos hx]
  obtain ⟨m, hm⟩ := hx.choose_spec
  exact runW_det hm h
theorem runW_stop {α : Type} {nxt : α → Option α} : ∀ {n : Nat} {a b : α}, runW nxt n a = some b → nxt b = none
  | 0, a, b, h => by
    unfold runW at h
    cases e : nxt a <;> rw [e] at h
    · simp only [Option.some.injEq] at h; rw [← h, e]
    · cases h
  | n + 1, a, b, h => by
    unfold runW at h
    cases e : nxt a <;> rw [e] at h
    · simp only [Option.some.injEq] at h; rw [← h, e]
    · exact runW_stop h
theorem runW_ind {α : Type} {nxt : α → Option α} {Q : α → Prop} (hQ : ∀ a b, Q a → nxt a = some b → Q b) : ∀ {n : Nat} {a b : α}, Q a → runW nxt n a = some b → Q b
  | 0, a, b, h0, h => by
    unfold runW at h
    cases e : nxt a <;> rw [e] at h
    · simp only [Option.some.injEq] at h; exact h ▸ h0
    · cases h
  | n + 1, a, b, h0, h => by
    unfold runW at h
    cases e : nxt a <;> rw [e] at h
    · simp only [Option.some.injEq] at h; exact h ▸ h0
    · exact runW_ind hQ (hQ _ _ h0 e) h
theorem runW_some {α : Type} {nxt : α → Option α} {I : α → Prop} {μ : α → Nat} (hI : ∀ a b, I a → nxt a = some b → I b ∧ μ b < μ a) : ∀ (n : Nat) (a : α), I a → μ a ≤ n → ∃ b, runW nxt n a = some b
  | 0, a, h, hn => by
    unfold runW
    cases e : nxt a
    · exact ⟨a, rfl⟩
    · have := (hI _ _ h e).2; omega
  | n + 1, a, h, hn => by
    unfold runW
    cases e : nxt a with
    | none => exact ⟨a, rfl⟩
    | some b =>
      obtain ⟨h1, h2⟩ := hI _ _ h e
      exact runW_some hI n b h1 (by omega)
/-- the end: what stays true, and that it is one -/
theorem endW_says {α : Type} {nxt : α → Option α} {I : α → Prop} {μ : α → Nat} (hI : ∀ a b, I a → nxt a = some b → I b ∧ μ b < μ a) {a : α} (h : I a) : I (endW nxt a) ∧ nxt (endW nxt a) = none ∧ ∀ Q : α → Prop, Q a → (∀ a b, I a → Q a → nxt a = some b → Q b) → Q (endW nxt a) := by
  obtain ⟨b, hb⟩ := runW_some hI (μ a) a h (Nat.le_refl _)
  rw [endW_eq hb]
  refine ⟨runW_ind (fun a b h e => (hI a b h e).1) h hb, runW_stop hb, fun Q h0 hQ => ?_⟩
  exact (runW_ind (Q := fun a => I a ∧ Q a) (fun a b h e => ⟨(hI a b h.1 e).1, hQ a b h.1 h.2 e⟩) ⟨h, h0⟩ hb).2
def stepW {P A : Type} (inv : P → A → Bool) (nxt : P → A → Option A) (out : P → A → T (Ex × St)) (d : P × A) : T (Way (P × A)) :=
  .ite none (inv d.1 d.2) (match nxt d.1 d.2 with | some b => .ret (.next (d.1, b)) | none => (out d.1 d.2).bind fun r => .ret (.out r.1 r.2)) .fail
theorem stepW_some {P A : Type} {inv : P → A → Bool} {nxt : P → A → Option A} {out : P → A → T (Ex × St)} {p : P} {a b : A} (hi : inv p a = true) (hn : nxt p a = some b) : (stepW inv nxt out (p, a)).eval = some (.next (p, b)) := by
  simp only [stepW, hi, hn]; rfl
theorem stepW_none {P A : Type} {inv : P → A → Bool} {nxt : P → A → Option A} {out : P → A → T (Ex × St)} {p : P} {a : A} {r : Ex × St} (hi : inv p a = true) (hn : nxt p a = none) (h : (out p a).eval = some r) : (stepW inv nxt out (p, a)).eval = some (.out r.1 r.2) := by
  simp only [stepW, hi, hn]
  show ((out p a).bind fun r => .ret (Way.out r.1 r.2)).eval = _
  rw [T.eval_bind, h]; rfl
noncomputable def resW {P A : Type} (inv : P → A → Bool) (nxt : P → A → Option A) (out : P → A → T (Ex × St)) (d : P × A) : T (Ex × St) :=
  .ite none (inv d.1 d.2) (out d.1 (endW (nxt d.1) d.2)) .fail
noncomputable def famW {P A : Type} (T0 H0 : List Nat) (m sz : Nat) (dec : List V → List Blk → Option (P × A)) (inv : P → A → Bool) (nxt : P → A → Option A) (out : P → A → T (Ex × St)) : LSpec :=
  famV T0 H0 m sz dec (resW inv nxt out)
theorem famW_ok {C : Cfg} (hC : C.Ok) (hm : C.P.follows .mixedOrders = true) {Λ : Loops} {c : Code} (hl : LoopsOk C Λ c) {T0 H0 : List Nat} {m sz : Nat} {P A : Type} {vs : P → A → List V} {bs : P → A → List Blk}
    {inv : P → A → Bool} {nxt : P → A → Option A} {out : P → A → T (Ex × St)} {dec : List V → List Blk → Option (P × A)}
    (hd : ∀ l b d, dec l b = some d → l = vs d.1 d.2 ∧ b = bs d.1 d.2) (μ : P → A → Nat)
    (hs : ∀ p a b, inv p a = true → nxt p a = some b → inv p b = true ∧ μ p b < μ p a)
    (hr : ∀ p a, inv p a = true → (∀ b, nxt p a = some b → (roundT C Λ c T0 H0 m (mkSt T0 H0 m sz (vs p a) (bs p a))).eval = some (.normal, mkSt T0 H0 m sz (vs p b) (bs p b))) ∧
      (nxt p a = none → ∀ r, (out p a).eval = some r → r.1 ≠ .normal ∧ (roundT C Λ c T0 H0 m (mkSt T0 H0 m sz (vs p a) (bs p a))).eval = some r)) :
    LoopOk C c (famW T0 H0 m sz dec inv nxt out) := by
  refine famV_ok hC hm hl (vs := fun d => vs d.1 d.2) (bs := fun d => bs d.1 d.2) (step := stepW inv nxt out) (fun d x hx => ?_) hd fun d r h => ?_
  · obtain ⟨p, a⟩ := d
    unfold stepW at hx
    cases hi : inv p a
    · simp only [hi] at hx; cases hx
    · simp only [hi] at hx
      cases hn : nxt p a with
      | some b =>
        simp only [hn] at hx
        obtain rfl := Option.some.inj hx
        exact (hr p a hi).1 b hn
      | none =>
        simp only [hn] at hx
        obtain ⟨r, h1, h2⟩ := T.eval_bind_some (show ((out p a).bind fun r => .ret (.out r.1 r.2)).eval = some x from hx)
        obtain rfl := Option.some.inj h2
        exact ((hr p a hi).2 hn r h1).2
  · obtain ⟨p, a⟩ := d
    unfold resW at h
    cases hi : inv p a
    · simp only [hi] at h; cases h
    · simp only [hi] at h
      have h' : (out p (endW (nxt p) a)).eval = some r := h
      have hI : ∀ a b, inv p a = true → nxt p a = some b → inv p b = true ∧ μ p b < μ p a := fun a b h e => hs p a b h e
      obtain ⟨e, he⟩ := runW_some hI (μ p a) a hi (Nat.le_refl _)
      rw [endW_eq he] at h'
      refine ⟨μ p a + 1, ?_⟩
      clear h
      generalize μ p a = n at he
      clear hI
      induction n generalizing a with
      | zero =>
        unfold runW at he
        unfold iter
        rw [T.eval_bind]
        cases hn : nxt p a <;> rw [hn] at he
        · simp only [Option.some.injEq] at he
          subst he
          rw [stepW_none hi hn h']
          have := ((hr p a hi).2 hn r h').1
          obtain ⟨r1, r2⟩ := r
          cases r1 <;> first | rfl | exact absurd rfl this
        · cases he
      | succ n ih =>
        unfold runW at he
        unfold iter
        rw [T.eval_bind]
        cases hn : nxt p a with
        | none =>
          rw [hn] at he
          simp only [Option.some.injEq] at he
          subst he
          rw [stepW_none hi hn h']
          have := ((hr p a hi).2 hn r h').1
          obtain ⟨r1, r2⟩ := r
          cases r1 <;> first | rfl | exact absurd rfl this
        | some b =>
          rw [hn] at he
          rw [stepW_some hi hn]
          exact ih b (hs p a b hi hn).1 he
def gI (l : List Int) (i : Int) : Int := l.getD (0 + i.toNat) 0
def gB (l : List Bool) (i : Int) : Bool := l.getD (0 + i.toNat) false
theorem gI_wf {l : List Int} (h : ∀ x ∈ l, (Lit.int .i64 x).wf = true) (i : Int) : (Lit.int .i64 (gI l i)).wf = true := by
  unfold gI
  rw [List.getD_eq_getElem?_getD]
  cases e : l[0 + i.toNat]? with
  | none => rfl
  | some x => exact h x (List.mem_of_getElem? e)
theorem tev_then {α : Type} {i : Option Nat} {c : Bool} {x y : T α} {v : Option α} (h : c = true) (h1 : x.eval = v) : (T.ite i c x y).eval = v := by rw [h]; exact h1
theorem tev_else {α : Type} {i : Option Nat} {c : Bool} {x y : T α} {v : Option α} (h : c = false) (h1 : y.eval = v) : (T.ite i c x y).eval = v := by rw [h]; exact h1
theorem cond_and (a b : Bool) : (bif a then b else false) = (a && b) := by cases a <;> rfl
theorem cond_or (a b : Bool) : (bif a then true else b) = (a || b) := by cases a <;> rfl
end Go.Eng
