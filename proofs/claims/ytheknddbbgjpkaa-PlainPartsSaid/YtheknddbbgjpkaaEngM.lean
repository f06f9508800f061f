/- The machine: loops by what stays true, what goes on, and a round's tree: the next state is any that the tree gives. No program is named here. -/
import Derived.Test.YtheknddbbgjpkaaEngL
namespace Go.Eng
open Go.RowKit
set_option linter.unusedVariables false
set_option linter.unusedSimpArgs false
open Classical in
noncomputable def invC {P A : Type} (ok : P → A → Prop) (p : P) (a : A) : Bool := decide (ok p a)
theorem invC_is {P A : Type} {ok : P → A → Prop} {p : P} {a : A} (h : ok p a) : invC ok p a = true := by unfold invC; exact @decide_eq_true _ (Classical.propDecidable _) h
theorem invC_ok {P A : Type} {ok : P → A → Prop} {p : P} {a : A} (h : invC ok p a = true) : ok p a := by unfold invC at h; exact @of_decide_eq_true _ (Classical.propDecidable _) h
def stepC {P A : Type} (ok : P → A → Prop) (rt : P → A → T (Ex × St)) (F : P → A → St) (μ : P → A → Nat) (p : P) (a b : A) : Prop := (rt p a).eval = some (.normal, F p b) ∧ ok p b ∧ μ p b < μ p a
open Classical in
noncomputable def nxtC {P A : Type} (ok : P → A → Prop) (go : P → A → Bool) (rt : P → A → T (Ex × St)) (F : P → A → St) (μ : P → A → Nat) (p : P) (a : A) : Option A :=
  if h : go p a = true ∧ ∃ b, stepC ok rt F μ p a b then some (Classical.choose h.2) else none
def outC {P A : Type} (x : Ex) (F : P → A → St) (p : P) (a : A) : T (Ex × St) := .ret (x, F p a)
theorem nxtC_some {P A : Type} {ok : P → A → Prop} {go : P → A → Bool} {rt : P → A → T (Ex × St)} {F : P → A → St} {μ : P → A → Nat} {p : P} {a b : A} (h : nxtC ok go rt F μ p a = some b) : go p a = true ∧ stepC ok rt F μ p a b := by
  unfold nxtC at h
  split at h
  · rename_i hc
    obtain rfl := Option.some.inj h
    exact ⟨hc.1, Classical.choose_spec hc.2⟩
  · cases h
theorem nxtC_none {P A : Type} {ok : P → A → Prop} {go : P → A → Bool} {rt : P → A → T (Ex × St)} {F : P → A → St} {μ : P → A → Nat} {p : P} {a : A} (hg : ∀ p a, ok p a → go p a = true → ∃ b, stepC ok rt F μ p a b) (ho : ok p a) (h : nxtC ok go rt F μ p a = none) : go p a = false := by
  unfold nxtC at h
  split at h
  · cases h
  · rename_i hc
    cases q : go p a
    · rfl
    · exact absurd ⟨q, hg p a ho q⟩ hc
theorem stC {P A : Type} {ok : P → A → Prop} {go : P → A → Bool} {rt : P → A → T (Ex × St)} {F : P → A → St} {μ : P → A → Nat} (p : P) (a b : A) (_ : invC ok p a = true) (e : nxtC ok go rt F μ p a = some b) : invC ok p b = true ∧ μ p b < μ p a := by
  obtain ⟨_, h⟩ := nxtC_some e
  exact ⟨invC_is h.2.1, h.2.2⟩
/-- where such a loop ends -/
theorem endC {P A : Type} {ok : P → A → Prop} {go : P → A → Bool} {rt : P → A → T (Ex × St)} {F : P → A → St} {μ : P → A → Nat} (hg : ∀ p a, ok p a → go p a = true → ∃ b, stepC ok rt F μ p a b) {p : P} {a : A} (h : ok p a) :
    ok p (endW (nxtC ok go rt F μ p) a) ∧ go p (endW (nxtC ok go rt F μ p) a) = false := by
  obtain ⟨h1, h2, _⟩ := endW_says (nxt := nxtC ok go rt F μ p) (I := fun a => ok p a) (μ := μ p) (fun a b _ e => (nxtC_some e).2.2) h
  exact ⟨h1, nxtC_none hg h1 h2⟩
noncomputable def famC {P A : Type} (T0 : List Nat) (S0 : List (Nat × Src)) (m M sz : Nat) (dec : List V → List Blk → Option (P × A)) (ok : P → A → Prop) (go : P → A → Bool) (rt : P → A → T (Ex × St)) (F : P → A → St) (μ : P → A → Nat) (x : Ex) : LSpec :=
  famWN T0 S0 m M sz dec (invC ok) (nxtC ok go rt F μ) (outC x F)
theorem famC_ok {C : Cfg} (hC : C.Ok) (hm : C.P.follows .mixedOrders = true) {Λ : Loops} {c : Code} (hl : LoopsOk C Λ c) {T0 : List Nat} {S0 : List (Nat × Src)} {m M sz : Nat} {P A : Type} {vs : P → A → List V} {bs : P → A → List Blk}
    {dec : List V → List Blk → Option (P × A)} (hd : ∀ l b d, dec l b = some d → l = vs d.1 d.2 ∧ b = bs d.1 d.2)
    {ok : P → A → Prop} {go : P → A → Bool} {rt : P → A → T (Ex × St)} {F : P → A → St} {μ : P → A → Nat} {x : Ex} (hx : x ≠ .normal) (hF : ∀ p a, F p a = mkSt T0 (keysR S0) M sz (vs p a) (bs p a))
    (hrun : ∀ p a, T.anon (roundN C Λ c T0 S0 m M (mkSt T0 (keysR S0) M sz (vs p a) (bs p a))) = rt p a)
    (hg : ∀ p a, ok p a → go p a = true → ∃ b, stepC ok rt F μ p a b)
    (hex : ∀ p a, ok p a → go p a = false → (rt p a).eval = some (x, F p a)) :
    LoopOk C c (famC T0 S0 m M sz dec ok go rt F μ x) := by
  refine famWN_ok (vs := vs) (bs := bs) hC hm hl hd μ stC fun p a h => ?_
  rw [← T.eval_anon (t := roundN _ _ _ _ _ _ _ _), hrun]
  refine ⟨fun b hb => ?_, fun hn r hr => ?_⟩
  · rw [(nxtC_some hb).2.1, hF]
  · obtain rfl := Option.some.inj hr
    exact ⟨hx, hex p a (invC_ok h) (nxtC_none hg (invC_ok h) hn)⟩
/-- the same, where the loop may be left in several ways -/
noncomputable def famD {P A : Type} (T0 : List Nat) (S0 : List (Nat × Src)) (m M sz : Nat) (dec : List V → List Blk → Option (P × A)) (ok : P → A → Prop) (go : P → A → Bool) (rt : P → A → T (Ex × St)) (F : P → A → St) (μ : P → A → Nat) (out : P → A → T (Ex × St)) : LSpec :=
  famWN T0 S0 m M sz dec (invC ok) (nxtC ok go rt F μ) out
theorem famD_ok {C : Cfg} (hC : C.Ok) (hm : C.P.follows .mixedOrders = true) {Λ : Loops} {c : Code} (hl : LoopsOk C Λ c) {T0 : List Nat} {S0 : List (Nat × Src)} {m M sz : Nat} {P A : Type} {vs : P → A → List V} {bs : P → A → List Blk}
    {dec : List V → List Blk → Option (P × A)} (hd : ∀ l b d, dec l b = some d → l = vs d.1 d.2 ∧ b = bs d.1 d.2)
    {ok : P → A → Prop} {go : P → A → Bool} {rt : P → A → T (Ex × St)} {F : P → A → St} {μ : P → A → Nat} {out : P → A → T (Ex × St)} (hF : ∀ p a, F p a = mkSt T0 (keysR S0) M sz (vs p a) (bs p a))
    (hrun : ∀ p a, T.anon (roundN C Λ c T0 S0 m M (mkSt T0 (keysR S0) M sz (vs p a) (bs p a))) = rt p a)
    (hg : ∀ p a, ok p a → go p a = true → ∃ b, stepC ok rt F μ p a b)
    (hex : ∀ p a, ok p a → go p a = false → ∀ r, (out p a).eval = some r → r.1 ≠ .normal ∧ (rt p a).eval = some r) :
    LoopOk C c (famD T0 S0 m M sz dec ok go rt F μ out) := by
  refine famWN_ok (vs := vs) (bs := bs) hC hm hl hd μ stC fun p a h => ?_
  rw [← T.eval_anon (t := roundN _ _ _ _ _ _ _ _), hrun]
  refine ⟨fun b hb => ?_, fun hn r hr => ?_⟩
  · rw [(nxtC_some hb).2.1, hF]
  · exact hex p a (invC_ok h) (nxtC_none hg (invC_ok h) hn) r hr
end Go.Eng
