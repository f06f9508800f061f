/- The machine: loops that are left in another form than they go on in. No program is named here. -/
import Derived.Test.YtheknddbbgjpkaaEngM
namespace Go.Eng
open Go.RowKit
set_option linter.unusedVariables false
set_option linter.unusedSimpArgs false
/-- the normal form behind a round, by how it was left -/
def exT (T0 T1 : List Nat) : Ex → List Nat
  | .normal => T0
  | _ => T1
def exS (S0 S1 : List (Nat × Src)) : Ex → List (Nat × Src)
  | .normal => S0
  | _ => S1
def roundX (C : Cfg) (Λ : Loops) (body : Code) (T0 : List Nat) (S0 : List (Nat × Src)) (T1 : List Nat) (S1 : List (Nat × Src)) (m M : Nat) (st : St) : T (Ex × St) :=
  (exec C Λ body st).bind fun x => (wkStN (exT T0 T1 x.1) (exS S0 S1 x.1) m M x.2).bind fun s => .ret (x.1, s)
def FamX (C : Cfg) (Λ : Loops) (body : Code) (T0 : List Nat) (S0 : List (Nat × Src)) (T1 : List Nat) (S1 : List (Nat × Src)) (m M : Nat) {α : Type} (F : α → St) (step : α → T (Way α)) : Prop :=
  ∀ a x, (step a).eval = some x → (roundX C Λ body T0 S0 T1 S1 m M (F a)).eval = some (x.at F)
theorem famX_rounds {C : Cfg} (hC : C.Ok) (hm : C.P.follows .mixedOrders = true) {Λ : Loops} {c : Code} (hl : LoopsOk C Λ c) {T0 : List Nat} {S0 : List (Nat × Src)} {T1 : List Nat} {S1 : List (Nat × Src)} {m M : Nat} {α : Type} {F : α → St} {step : α → T (Way α)} (hf : FamX C Λ c T0 S0 T1 S1 m M F step)
    {ν0 : Env} {n0 : Nat} {w0 : World} {F0 : Nat → Prop} (hn : n0 ≤ m) {Q : Exit → Act → World → Prop} :
    ∀ (n : Nat) (d : α) (r : Ex × St) (ν : Env) (a : Act) (w : World), (iter step n d).eval = some r → Says ν0 n0 w0 F0 ν (F d) a w → (∀ ν' a' w', Says ν0 n0 w0 F0 ν' r.2 a' w' → Q r.1.to a' w') → Code.rounds C.P c Q n a w
  | 0, d, r, ν, a, w, h, hs, hq => by cases h
  | n + 1, d, r, ν, a, w, h, hs, hq => by
    unfold iter at h
    obtain ⟨x, h1, h⟩ := T.eval_bind_some h
    obtain ⟨y, h2, h3⟩ := T.eval_bind_some (hf d x h1)
    obtain ⟨s, h4, h5⟩ := T.eval_bind_some h3
    simp only [T.eval, Option.some.injEq] at h5
    show c.wp C.P (Exit.then (Code.rounds C.P c Q n) Q) a w
    refine exec_ok hC hm c (F d) y _ ν a w hl h2 hs ?_
    intro ν' a' w' hs'
    obtain ⟨ν2, hs2⟩ := wkStN_says hs' hn h4
    cases x with
    | next d' =>
      simp only [Way.at, Prod.mk.injEq] at h5
      obtain ⟨e1, rfl⟩ := h5
      rw [e1]
      exact famX_rounds hC hm hl hf hn n d' r ν2 a' w' h hs2 hq
    | out e s' =>
      simp only [Way.at, Prod.mk.injEq] at h5
      obtain ⟨e1, rfl⟩ := h5
      rw [e1]
      cases e with
      | normal => cases h
      | exit i => simp only [T.eval, Option.some.injEq] at h; subst h; exact hq ν2 a' w' hs2
      | ret => simp only [T.eval, Option.some.injEq] at h; subst h; exact hq ν2 a' w' hs2
def famXL {α : Type} (T0 : List Nat) (S0 S1 : List (Nat × Src)) (m M sz : Nat) (dec : List V → List Blk → Option α) (res : α → T (Ex × St)) : LSpec := fun st =>
  (wkStN T0 S0 m M st).bind fun s => if Nat.beq st.size sz && Nat.ble st.next m && apartB st.heap (keysR S1) then opt (dec (s.tmps.map (·.2)) (s.heap.map (·.2))) fun d => (res d).bind fun r => .ret (r.1, withLeaves st.heap r.2) else .fail
theorem iterX_blocks {C : Cfg} {Λ : Loops} {c : Code} {T0 : List Nat} {S0 : List (Nat × Src)} {T1 : List Nat} {S1 : List (Nat × Src)} {m M : Nat} {α : Type} {F : α → St} {step : α → T (Way α)} (hf : FamX C Λ c T0 S0 T1 S1 m M F step) :
    ∀ (n : Nat) (d : α) (r : Ex × St), (iter step n d).eval = some r → ∃ st, (wkStN T1 S1 m M st).eval = some r.2
  | 0, d, r, h => by cases h
  | n + 1, d, r, h => by
    unfold iter at h
    obtain ⟨x, h1, h⟩ := T.eval_bind_some h
    cases x with
    | next d' => exact iterX_blocks hf n d' r h
    | out e s =>
      obtain ⟨y, h2, h3⟩ := T.eval_bind_some (hf d _ h1)
      obtain ⟨s', h4, h5⟩ := T.eval_bind_some h3
      simp only [T.eval, Option.some.injEq, Way.at, Prod.mk.injEq] at h5
      obtain ⟨e1, rfl⟩ := h5
      cases e with
      | normal => cases h
      | exit i => simp only [T.eval, Option.some.injEq] at h; subst h; rw [e1] at h4; exact ⟨_, h4⟩
      | ret => simp only [T.eval, Option.some.injEq] at h; subst h; rw [e1] at h4; exact ⟨_, h4⟩
theorem famXL_ok {C : Cfg} (hC : C.Ok) (hm : C.P.follows .mixedOrders = true) {Λ : Loops} {c : Code} (hl : LoopsOk C Λ c) {T0 : List Nat} {S0 : List (Nat × Src)} {T1 : List Nat} {S1 : List (Nat × Src)} {m M sz : Nat} {α : Type} {vs : α → List V} {bs : α → List Blk} {step : α → T (Way α)}
    (hf : FamX C Λ c T0 S0 T1 S1 m M (fun d => mkSt T0 (keysR S0) M sz (vs d) (bs d)) step) {dec : List V → List Blk → Option α} {res : α → T (Ex × St)} (hd : ∀ l b d, dec l b = some d → l = vs d ∧ b = bs d) (hr : ∀ d r, (res d).eval = some r → ∃ n, (iter step n d).eval = some r) :
    LoopOk C c (famXL T0 S0 S1 m M sz dec res) := by
  have open' : ∀ (st : St) (r : Ex × St), (famXL T0 S0 S1 m M sz dec res st).eval = some r → ∃ s d r0 n, (wkStN T0 S0 m M st).eval = some s ∧ st.next ≤ m ∧ apartB st.heap (keysR S1) = true ∧ s = mkSt T0 (keysR S0) M sz (vs d) (bs d) ∧ (iter step n d).eval = some r0 ∧ r = (r0.1, withLeaves st.heap r0.2) := by
    intro st r h
    obtain ⟨s, h1, h⟩ := T.eval_bind_some h
    split at h
    · rename_i hc
      simp only [Bool.and_eq_true] at hc
      obtain ⟨d, h2, h⟩ := opt_eval h
      obtain ⟨r0, h3, h⟩ := T.eval_bind_some h
      simp only [T.eval, Option.some.injEq] at h
      obtain ⟨n, hn⟩ := hr d r0 h3
      have hsz : s.size = sz := by rw [(wkStN_inv h1).2.2.2]; exact Nat.eq_of_beq_eq_true hc.1.1
      have hmk := wkStN_mk h1
      obtain ⟨e1, e2⟩ := hd _ _ _ h2
      rw [hsz, e1, e2] at hmk
      exact ⟨s, d, r0, n, h1, Nat.le_of_ble_eq_true hc.1.2, hc.2, hmk, hn, h.symm⟩
    · cases h
  refine ⟨fun st r h ν0 n0 w0 F0 ν a w Q hs hq => ?_, fun st r h hi => ?_⟩
  · obtain ⟨s, d, r0, n, h1, h3, h4, rfl, h5, rfl⟩ := open' st r h
    have hsr := hs.rebase
    obtain ⟨ν1, hs1⟩ := wkStN_says hsr h3 h1
    refine wp_loop_rounds n (famX_rounds hC hm hl hf h3 n d r0 ν1 a w h5 hs1 ?_)
    intro ν' a' w' hs'
    obtain ⟨q, hq1⟩ := iterX_blocks hf n d r0 h5
    obtain ⟨ν'', hs''⟩ := withLeaves_says (h := st.heap) (fun i b hb => lt_iff.1 (hs.1.okH i b hb).2) (fun i c hc => (hs.1.rel.den i _ hc).1) hs' (by rw [(wkStN_inv hq1).2.1]; exact Nat.le_trans h3 (wkStN_inv hq1).2.2.1) (fun i c hc => by
      cases e : look r0.2.heap i with
      | none => rfl
      | some b => exact absurd (wkStN_mem hq1 i b e) (apartB_of h4 hc))
    refine hq ν'' a' w' (hs.back hs.2 hs'' ?_)
    rintro k ⟨i, b, hb, ho, hk⟩
    exact hs.1.own i b hb ho k hk
  · obtain ⟨s, d, r0, n, h1, h3, h4, rfl, h5, rfl⟩ := open' st r h
    obtain ⟨q, hq1⟩ := iterX_blocks hf n d r0 h5
    have hM : m ≤ r0.2.next := by rw [(wkStN_inv hq1).2.1]; exact (wkStN_inv hq1).2.2.1
    refine ⟨fun i b hb => ?_, fun i c hc => ?_⟩
    · simp only [withLeaves, look_append, over] at hb
      show i < r0.2.next
      cases e : look r0.2.heap i with
      | some b' => exact (wkStN_inv hq1).1 i b' e
      | none =>
        rw [e] at hb
        exact Nat.lt_of_lt_of_le (hi i b (look_lvs.2 b hb).1) (Nat.le_trans h3 hM)
    · simp only [withLeaves, look_append, over]
      cases e : look r0.2.heap i with
      | some b' => exact absurd (wkStN_mem hq1 i b' e) (apartB_of h4 hc)
      | none => exact look_lvs.1 c hc (look_mem_ids hc)
noncomputable def famXW {P A : Type} (T0 : List Nat) (S0 S1 : List (Nat × Src)) (m M sz : Nat) (dec : List V → List Blk → Option (P × A)) (inv : P → A → Bool) (nxt : P → A → Option A) (out : P → A → T (Ex × St)) : LSpec :=
  famXL T0 S0 S1 m M sz dec (resW inv nxt out)
theorem famXW_ok {C : Cfg} (hC : C.Ok) (hm : C.P.follows .mixedOrders = true) {Λ : Loops} {c : Code} (hl : LoopsOk C Λ c) {T0 : List Nat} {S0 : List (Nat × Src)} {T1 : List Nat} {S1 : List (Nat × Src)} {m M sz : Nat} {P A : Type} {vs : P → A → List V} {bs : P → A → List Blk}
    {inv : P → A → Bool} {nxt : P → A → Option A} {out : P → A → T (Ex × St)} {dec : List V → List Blk → Option (P × A)}
    (hd : ∀ l b d, dec l b = some d → l = vs d.1 d.2 ∧ b = bs d.1 d.2) (μ : P → A → Nat)
    (hs : ∀ p a b, inv p a = true → nxt p a = some b → inv p b = true ∧ μ p b < μ p a)
    (hr : ∀ p a, inv p a = true → (∀ b, nxt p a = some b → (roundX C Λ c T0 S0 T1 S1 m M (mkSt T0 (keysR S0) M sz (vs p a) (bs p a))).eval = some (.normal, mkSt T0 (keysR S0) M sz (vs p b) (bs p b))) ∧
      (nxt p a = none → ∀ r, (out p a).eval = some r → r.1 ≠ .normal ∧ (roundX C Λ c T0 S0 T1 S1 m M (mkSt T0 (keysR S0) M sz (vs p a) (bs p a))).eval = some r)) :
    LoopOk C c (famXW T0 S0 S1 m M sz dec inv nxt out) := by
  refine famXL_ok (T1 := T1) hC hm hl (vs := fun d => vs d.1 d.2) (bs := fun d => bs d.1 d.2) (step := stepW inv nxt out) (fun d x hx => ?_) hd fun d r h => ?_
  · obtain ⟨p, a⟩ := d
    unfold stepW at hx
    cases hi : inv p a
    · simp only [hi] at hx; cases hx
    · simp only [hi] at hx
      cases hn : nxt p a with
      | some b =>
        simp only [hn] at hx
        obtain rfl := Option.some.inj hx
        exact (hr p a hi).1 b hn
      | none =>
        simp only [hn] at hx
        obtain ⟨r, h1, h2⟩ := T.eval_bind_some (show ((out p a).bind fun r => .ret (.out r.1 r.2)).eval = some x from hx)
        obtain rfl := Option.some.inj h2
        exact ((hr p a hi).2 hn r h1).2
  · obtain ⟨p, a⟩ := d
    unfold resW at h
    cases hi : inv p a
    · simp only [hi] at h; cases h
    · simp only [hi] at h
      have h' : (out p (endW (nxt p) a)).eval = some r := h
      have hI : ∀ a b, inv p a = true → nxt p a = some b → inv p b = true ∧ μ p b < μ p a := fun a b h e => hs p a b h e
      obtain ⟨e, he⟩ := runW_some hI (μ p a) a hi (Nat.le_refl _)
      rw [endW_eq he] at h'
      refine ⟨μ p a + 1, ?_⟩
      clear h
      generalize μ p a = n at he
      clear hI
      induction n generalizing a with
      | zero =>
        unfold runW at he
        unfold iter
        rw [T.eval_bind]
        cases hn : nxt p a <;> rw [hn] at he
        · simp only [Option.some.injEq] at he
          subst he
          rw [stepW_none hi hn h']
          have := ((hr p a hi).2 hn r h').1
          obtain ⟨r1, r2⟩ := r
          cases r1 <;> first | rfl | exact absurd rfl this
        · cases he
      | succ n ih =>
        unfold runW at he
        unfold iter
        rw [T.eval_bind]
        cases hn : nxt p a with
        | none =>
          rw [hn] at he
          simp only [Option.some.injEq] at he
          subst he
          rw [stepW_none hi hn h']
          have := ((hr p a hi).2 hn r h').1
          obtain ⟨r1, r2⟩ := r
          cases r1 <;> first | rfl | exact absurd rfl this
        | some b =>
          rw [hn] at he
          rw [stepW_some hi hn]
          exact ih b (hs p a b hi hn).1 he
noncomputable def famE {P A : Type} (T0 : List Nat) (S0 S1 : List (Nat × Src)) (m M sz : Nat) (dec : List V → List Blk → Option (P × A)) (ok : P → A → Prop) (go : P → A → Bool) (rt : P → A → T (Ex × St)) (F : P → A → St) (μ : P → A → Nat) (out : P → A → T (Ex × St)) : LSpec :=
  famXW T0 S0 S1 m M sz dec (invC ok) (nxtC ok go rt F μ) out
theorem famE_ok {C : Cfg} (hC : C.Ok) (hm : C.P.follows .mixedOrders = true) {Λ : Loops} {c : Code} (hl : LoopsOk C Λ c) {T0 : List Nat} {S0 : List (Nat × Src)} {T1 : List Nat} {S1 : List (Nat × Src)} {m M sz : Nat} {P A : Type} {vs : P → A → List V} {bs : P → A → List Blk}
    {dec : List V → List Blk → Option (P × A)} (hd : ∀ l b d, dec l b = some d → l = vs d.1 d.2 ∧ b = bs d.1 d.2)
    {ok : P → A → Prop} {go : P → A → Bool} {rt : P → A → T (Ex × St)} {F : P → A → St} {μ : P → A → Nat} {out : P → A → T (Ex × St)} (hF : ∀ p a, F p a = mkSt T0 (keysR S0) M sz (vs p a) (bs p a))
    (hrun : ∀ p a, T.anon (roundX C Λ c T0 S0 T1 S1 m M (mkSt T0 (keysR S0) M sz (vs p a) (bs p a))) = rt p a)
    (hg : ∀ p a, ok p a → go p a = true → ∃ b, stepC ok rt F μ p a b)
    (hex : ∀ p a, ok p a → go p a = false → ∀ r, (out p a).eval = some r → r.1 ≠ .normal ∧ (rt p a).eval = some r) :
    LoopOk C c (famE T0 S0 S1 m M sz dec ok go rt F μ out) := by
  refine famXW_ok (T1 := T1) (vs := vs) (bs := bs) hC hm hl hd μ stC fun p a h => ?_
  rw [← T.eval_anon (t := roundX _ _ _ _ _ _ _ _ _ _), hrun]
  refine ⟨fun b hb => ?_, fun hn r hr => ?_⟩
  · rw [(nxtC_some hb).2.1, hF]
  · exact hex p a (invC_ok h) (nxtC_none hg (invC_ok h) hn) r hr
end Go.Eng
