/- The machine: loops whose blocks change their numbers, and whose cells and slots are plain again behind each round. No program is named here. -/
import Derived.Test.YtheknddbbgjpkaaEngZ
namespace Go.Eng
open Go.RowKit
set_option linter.unusedVariables false
set_option linter.unusedSimpArgs false
def g2 (l : List (Int × Int)) (i : Int) : Int × Int := l.getD (0 + i.toNat) (0, 0)
def g3 (l : List (Int × Int × Int)) (i : Int) : Int × Int × Int := l.getD (0 + i.toNat) (0, 0, 0)
/-- a plain value in its plainest form -/
def normV (L : Look) (v : V) : V :=
  match v with
  | .tt => .s (.bool true)
  | .ff => .s (.bool false)
  | v => if flat (detach L v) then detach L v else v
theorem normV_den {ν : Env} {L : Look} {w : World} (hr : Rel ν L w) (v : V) : (normV L v).den ν = v.den ν := by
  unfold normV
  split
  · rfl
  · rfl
  · split
    · rename_i h; exact detach_den hr _ h
    · rfl
theorem normV_junk {L : Look} {v : V} (h : (normV L v).isJunk = false) : v.isJunk = false := by
  cases v <;> first | rfl | (simp [normV, detach, flat, V.ok, V.isJunk] at h)
theorem normV_ok {L : Look} {p : Nat → Bool} {v : V} (h : v.ok p = true) : (normV L v).ok p = true := by
  unfold normV
  split
  · rfl
  · rfl
  · split
    · rename_i hf; exact V.ok_mono (fun i hi => by cases hi) _ hf
    · exact h
def normB (L : Look) : Blk → Blk
  | .cells t l => .cells t (l.map (normV L))
  | b => b
def normTm (L : Look) : Tm → Tm
  | [] => []
  | (t, v) :: r => (t, normV L v) :: normTm L r
def normHp (L : Look) : Heap → Heap
  | [] => []
  | (i, b) :: r => (i, normB L b) :: normHp L r
theorem normTm_get {L : Look} : ∀ (l : Tm) (t : Nat), getT (normTm L l) t = normV L (getT l t)
  | [], t => rfl
  | (j, v) :: r, t => by
    simp only [normTm, getT]
    split
    · rfl
    · exact normTm_get r t
theorem normHp_look {L : Look} : ∀ (h : Heap) (i : Nat), look (normHp L h) i = (look h i).map (normB L)
  | [], i => rfl
  | (j, b) :: r, i => by
    simp only [normHp, look]
    split
    · rfl
    · exact normHp_look r i
def normSt (st : St) : St := ⟨normTm (look st.heap) st.tmps, normHp (look st.heap) st.heap, st.next, st.size⟩
theorem normL_den {ν : Env} {L : Look} {w : World} (hr : Rel ν L w) : ∀ l : List V, denL ν (l.map (normV L)) = denL ν l
  | [] => rfl
  | v :: r => by simp only [List.map_cons, denL, normV_den hr v, normL_den hr r]
theorem normL_ok {L : Look} {p : Nat → Bool} : ∀ {l : List V}, okL p l = true → okL p (l.map (normV L)) = true
  | [], h => rfl
  | v :: r, h => by
    simp only [List.map_cons, okL, Bool.and_eq_true] at h ⊢
    exact ⟨normV_ok h.1, normL_ok h.2⟩
theorem normB_owned {L : Look} (b : Blk) : (normB L b).owned = b.owned := by cases b <;> rfl
theorem normSt_says {ν0 : Env} {n0 : Nat} {w0 : World} {F0 : Nat → Prop} {ν : Env} {st : St} {a : Act} {w : World} (hs : Says ν0 n0 w0 F0 ν st a w) : Says ν0 n0 w0 F0 ν (normSt st) a w := by
  obtain ⟨hr, hn0⟩ := hs
  have hlk : ∀ i b, look (normHp (look st.heap) st.heap) i = some b → ∃ c, look st.heap i = some c ∧ b = normB (look st.heap) c := by
    intro i b e
    rw [normHp_look] at e
    obtain ⟨c, h1, h2⟩ := Option.map_eq_some_iff.1 e
    exact ⟨c, h1, h2.symm⟩
  refine ⟨⟨hr.size, ?_, ?_, hr.defers, ⟨?_, ?_⟩, ?_, ?_, hr.prog, ?_, hr.base⟩, hn0⟩
  · intro t ht
    simp only [normSt, normTm_get] at ht
    exact hr.dom t (normV_junk ht)
  · intro t ht
    simp only [normSt, normTm_get] at ht ⊢
    rw [normV_den hr.rel]
    exact hr.tmp t (normV_junk ht)
  · intro i b e
    obtain ⟨c, h1, rfl⟩ := hlk i b e
    have hd := hr.rel.den i c h1
    cases c with
    | cells t l =>
      obtain ⟨d1, d2, d3⟩ := hd
      exact ⟨d1, d2, by rw [normL_den hr.rel]; exact d3⟩
    | ro t l => exact hd
    | leaf c => exact hd
    | lst own t ks l => exact hd
    | dead => exact hd
    | bx t tp tb ks l g x => exact hd
  · intro i j bi bj ne ei ej ho k hk hk'
    obtain ⟨c, h1, rfl⟩ := hlk i bi ei
    obtain ⟨d, h2, rfl⟩ := hlk j bj ej
    rw [normB_owned] at ho
    exact hr.rel.dis i j c d ne h1 h2 ho k hk hk'
  · intro t ht
    simp only [normSt, normTm_get] at ht ⊢
    exact normV_ok (hr.okT t (normV_junk ht))
  · intro i b e
    obtain ⟨c, h1, rfl⟩ := hlk i b e
    obtain ⟨o1, o2⟩ := hr.okH i c h1
    refine ⟨?_, o2⟩
    cases c with
    | cells t l => exact normL_ok o1
    | ro t l => exact o1
    | leaf c => rfl
    | lst own t ks l => rfl
    | dead => rfl
    | bx t tp tb ks l g x => exact o1
  · intro i b e ho k hk
    obtain ⟨c, h1, rfl⟩ := hlk i b e
    rw [normB_owned] at ho
    exact hr.own i c h1 ho k hk
def wkStN (T0 : List Nat) (S0 : List (Nat × Src)) (m M : Nat) (st : St) : T St := wkStR T0 S0 m M (normSt (settleSt st))
theorem wkStN_says {T0 : List Nat} {S0 : List (Nat × Src)} {m M : Nat} {ν0 : Env} {n0 : Nat} {w0 : World} {F0 : Nat → Prop} {ν : Env} {st st' : St} {a : Act} {w : World} (hs : Says ν0 n0 w0 F0 ν st a w) (hn : n0 ≤ m)
    (h : (wkStN T0 S0 m M st).eval = some st') : ∃ ν', Says ν0 n0 w0 F0 ν' st' a w := by
  obtain ⟨ν1, h1⟩ := settleSt_says hs
  exact wkStR_says (normSt_says h1) hn h
theorem wkStN_mem {T0 : List Nat} {S0 : List (Nat × Src)} {m M : Nat} {st st' : St} (h : (wkStN T0 S0 m M st).eval = some st') : ∀ i b, look st'.heap i = some b → i ∈ keysR S0 := wkStR_mem (st := normSt (settleSt st)) h
theorem wkStN_inv {T0 : List Nat} {S0 : List (Nat × Src)} {m M : Nat} {st st' : St} (h : (wkStN T0 S0 m M st).eval = some st') : Inv st' ∧ st'.next = M ∧ m ≤ M ∧ st'.size = st.size := by
  have := wkStR_inv (st := normSt (settleSt st)) h
  rw [← settleSt_size st]; exact this
theorem wkStN_mk {T0 : List Nat} {S0 : List (Nat × Src)} {m M : Nat} {st s : St} (h : (wkStN T0 S0 m M st).eval = some s) : s = mkSt T0 (keysR S0) M s.size (s.tmps.map (·.2)) (s.heap.map (·.2)) := wkStR_mk (st := normSt (settleSt st)) h
def roundN (C : Cfg) (Λ : Loops) (body : Code) (T0 : List Nat) (S0 : List (Nat × Src)) (m M : Nat) (st : St) : T (Ex × St) :=
  (exec C Λ body st).bind fun x => (wkStN T0 S0 m M x.2).bind fun s => .ret (x.1, s)
def FamN (C : Cfg) (Λ : Loops) (body : Code) (T0 : List Nat) (S0 : List (Nat × Src)) (m M : Nat) {α : Type} (F : α → St) (step : α → T (Way α)) : Prop :=
  ∀ a x, (step a).eval = some x → (roundN C Λ body T0 S0 m M (F a)).eval = some (x.at F)
theorem famN_rounds {C : Cfg} (hC : C.Ok) (hm : C.P.follows .mixedOrders = true) {Λ : Loops} {c : Code} (hl : LoopsOk C Λ c) {T0 : List Nat} {S0 : List (Nat × Src)} {m M : Nat} {α : Type} {F : α → St} {step : α → T (Way α)} (hf : FamN C Λ c T0 S0 m M F step)
    {ν0 : Env} {n0 : Nat} {w0 : World} {F0 : Nat → Prop} (hn : n0 ≤ m) {Q : Exit → Act → World → Prop} :
    ∀ (n : Nat) (d : α) (r : Ex × St) (ν : Env) (a : Act) (w : World), (iter step n d).eval = some r → Says ν0 n0 w0 F0 ν (F d) a w → (∀ ν' a' w', Says ν0 n0 w0 F0 ν' r.2 a' w' → Q r.1.to a' w') → Code.rounds C.P c Q n a w
  | 0, d, r, ν, a, w, h, hs, hq => by cases h
  | n + 1, d, r, ν, a, w, h, hs, hq => by
    unfold iter at h
    obtain ⟨x, h1, h⟩ := T.eval_bind_some h
    obtain ⟨y, h2, h3⟩ := T.eval_bind_some (hf d x h1)
    obtain ⟨s, h4, h5⟩ := T.eval_bind_some h3
    simp only [T.eval, Option.some.injEq] at h5
    show c.wp C.P (Exit.then (Code.rounds C.P c Q n) Q) a w
    refine exec_ok hC hm c (F d) y _ ν a w hl h2 hs ?_
    intro ν' a' w' hs'
    obtain ⟨ν2, hs2⟩ := wkStN_says hs' hn h4
    cases x with
    | next d' =>
      simp only [Way.at, Prod.mk.injEq] at h5
      obtain ⟨e1, rfl⟩ := h5
      rw [e1]
      exact famN_rounds hC hm hl hf hn n d' r ν2 a' w' h hs2 hq
    | out e s' =>
      simp only [Way.at, Prod.mk.injEq] at h5
      obtain ⟨e1, rfl⟩ := h5
      rw [e1]
      cases e with
      | normal => cases h
      | exit i => simp only [T.eval, Option.some.injEq] at h; subst h; exact hq ν2 a' w' hs2
      | ret => simp only [T.eval, Option.some.injEq] at h; subst h; exact hq ν2 a' w' hs2
def famNL {α : Type} (T0 : List Nat) (S0 : List (Nat × Src)) (m M sz : Nat) (dec : List V → List Blk → Option α) (res : α → T (Ex × St)) : LSpec := fun st =>
  (wkStN T0 S0 m M st).bind fun s => if Nat.beq st.size sz && Nat.ble st.next m && apartB st.heap (keysR S0) then opt (dec (s.tmps.map (·.2)) (s.heap.map (·.2))) fun d => (res d).bind fun r => .ret (r.1, withLeaves st.heap r.2) else .fail
theorem iterN_blocks {C : Cfg} {Λ : Loops} {c : Code} {T0 : List Nat} {S0 : List (Nat × Src)} {m M : Nat} {α : Type} {F : α → St} {step : α → T (Way α)} (hf : FamN C Λ c T0 S0 m M F step) :
    ∀ (n : Nat) (d : α) (r : Ex × St), (iter step n d).eval = some r → ∃ st, (wkStN T0 S0 m M st).eval = some r.2
  | 0, d, r, h => by cases h
  | n + 1, d, r, h => by
    unfold iter at h
    obtain ⟨x, h1, h⟩ := T.eval_bind_some h
    cases x with
    | next d' => exact iterN_blocks hf n d' r h
    | out e s =>
      obtain ⟨y, h2, h3⟩ := T.eval_bind_some (hf d _ h1)
      obtain ⟨s', h4, h5⟩ := T.eval_bind_some h3
      simp only [T.eval, Option.some.injEq, Way.at, Prod.mk.injEq] at h5
      obtain ⟨e1, rfl⟩ := h5
      cases e with
      | normal => cases h
      | exit i => simp only [T.eval, Option.some.injEq] at h; subst h; exact ⟨_, h4⟩
      | ret => simp only [T.eval, Option.some.injEq] at h; subst h; exact ⟨_, h4⟩
theorem famNL_ok {C : Cfg} (hC : C.Ok) (hm : C.P.follows .mixedOrders = true) {Λ : Loops} {c : Code} (hl : LoopsOk C Λ c) {T0 : List Nat} {S0 : List (Nat × Src)} {m M sz : Nat} {α : Type} {vs : α → List V} {bs : α → List Blk} {step : α → T (Way α)}
    (hf : FamN C Λ c T0 S0 m M (fun d => mkSt T0 (keysR S0) M sz (vs d) (bs d)) step) {dec : List V → List Blk → Option α} {res : α → T (Ex × St)} (hd : ∀ l b d, dec l b = some d → l = vs d ∧ b = bs d) (hr : ∀ d r, (res d).eval = some r → ∃ n, (iter step n d).eval = some r) :
    LoopOk C c (famNL T0 S0 m M sz dec res) := by
  have open' : ∀ (st : St) (r : Ex × St), (famNL T0 S0 m M sz dec res st).eval = some r → ∃ s d r0 n, (wkStN T0 S0 m M st).eval = some s ∧ st.next ≤ m ∧ apartB st.heap (keysR S0) = true ∧ s = mkSt T0 (keysR S0) M sz (vs d) (bs d) ∧ (iter step n d).eval = some r0 ∧ r = (r0.1, withLeaves st.heap r0.2) := by
    intro st r h
    obtain ⟨s, h1, h⟩ := T.eval_bind_some h
    split at h
    · rename_i hc
      simp only [Bool.and_eq_true] at hc
      obtain ⟨d, h2, h⟩ := opt_eval h
      obtain ⟨r0, h3, h⟩ := T.eval_bind_some h
      simp only [T.eval, Option.some.injEq] at h
      obtain ⟨n, hn⟩ := hr d r0 h3
      have hsz : s.size = sz := by rw [(wkStN_inv h1).2.2.2]; exact Nat.eq_of_beq_eq_true hc.1.1
      have hmk := wkStN_mk h1
      obtain ⟨e1, e2⟩ := hd _ _ _ h2
      rw [hsz, e1, e2] at hmk
      exact ⟨s, d, r0, n, h1, Nat.le_of_ble_eq_true hc.1.2, hc.2, hmk, hn, h.symm⟩
    · cases h
  refine ⟨fun st r h ν0 n0 w0 F0 ν a w Q hs hq => ?_, fun st r h hi => ?_⟩
  · obtain ⟨s, d, r0, n, h1, h3, h4, rfl, h5, rfl⟩ := open' st r h
    have hsr := hs.rebase
    obtain ⟨ν1, hs1⟩ := wkStN_says hsr h3 h1
    refine wp_loop_rounds n (famN_rounds hC hm hl hf h3 n d r0 ν1 a w h5 hs1 ?_)
    intro ν' a' w' hs'
    obtain ⟨q, hq1⟩ := iterN_blocks hf n d r0 h5
    obtain ⟨ν'', hs''⟩ := withLeaves_says (h := st.heap) (fun i b hb => lt_iff.1 (hs.1.okH i b hb).2) (fun i c hc => (hs.1.rel.den i _ hc).1) hs' (by rw [(wkStN_inv hq1).2.1]; exact Nat.le_trans h3 (wkStN_inv hq1).2.2.1) (fun i c hc => by
      cases e : look r0.2.heap i with
      | none => rfl
      | some b => exact absurd (wkStN_mem hq1 i b e) (apartB_of h4 hc))
    refine hq ν'' a' w' (hs.back hs.2 hs'' ?_)
    rintro k ⟨i, b, hb, ho, hk⟩
    exact hs.1.own i b hb ho k hk
  · obtain ⟨s, d, r0, n, h1, h3, h4, rfl, h5, rfl⟩ := open' st r h
    obtain ⟨q, hq1⟩ := iterN_blocks hf n d r0 h5
    have hM : m ≤ r0.2.next := by rw [(wkStN_inv hq1).2.1]; exact (wkStN_inv hq1).2.2.1
    refine ⟨fun i b hb => ?_, fun i c hc => ?_⟩
    · simp only [withLeaves, look_append, over] at hb
      show i < r0.2.next
      cases e : look r0.2.heap i with
      | some b' => exact (wkStN_inv hq1).1 i b' e
      | none =>
        rw [e] at hb
        exact Nat.lt_of_lt_of_le (hi i b (look_lvs.2 b hb).1) (Nat.le_trans h3 hM)
    · simp only [withLeaves, look_append, over]
      cases e : look r0.2.heap i with
      | some b' => exact absurd (wkStN_mem hq1 i b' e) (apartB_of h4 hc)
      | none => exact look_lvs.1 c hc (look_mem_ids hc)
noncomputable def famWN {P A : Type} (T0 : List Nat) (S0 : List (Nat × Src)) (m M sz : Nat) (dec : List V → List Blk → Option (P × A)) (inv : P → A → Bool) (nxt : P → A → Option A) (out : P → A → T (Ex × St)) : LSpec :=
  famNL T0 S0 m M sz dec (resW inv nxt out)
theorem famWN_ok {C : Cfg} (hC : C.Ok) (hm : C.P.follows .mixedOrders = true) {Λ : Loops} {c : Code} (hl : LoopsOk C Λ c) {T0 : List Nat} {S0 : List (Nat × Src)} {m M sz : Nat} {P A : Type} {vs : P → A → List V} {bs : P → A → List Blk}
    {inv : P → A → Bool} {nxt : P → A → Option A} {out : P → A → T (Ex × St)} {dec : List V → List Blk → Option (P × A)}
    (hd : ∀ l b d, dec l b = some d → l = vs d.1 d.2 ∧ b = bs d.1 d.2) (μ : P → A → Nat)
    (hs : ∀ p a b, inv p a = true → nxt p a = some b → inv p b = true ∧ μ p b < μ p a)
    (hr : ∀ p a, inv p a = true → (∀ b, nxt p a = some b → (roundN C Λ c T0 S0 m M (mkSt T0 (keysR S0) M sz (vs p a) (bs p a))).eval = some (.normal, mkSt T0 (keysR S0) M sz (vs p b) (bs p b))) ∧
      (nxt p a = none → ∀ r, (out p a).eval = some r → r.1 ≠ .normal ∧ (roundN C Λ c T0 S0 m M (mkSt T0 (keysR S0) M sz (vs p a) (bs p a))).eval = some r)) :
    LoopOk C c (famWN T0 S0 m M sz dec inv nxt out) := by
  refine famNL_ok hC hm hl (vs := fun d => vs d.1 d.2) (bs := fun d => bs d.1 d.2) (step := stepW inv nxt out) (fun d x hx => ?_) hd fun d r h => ?_
  · obtain ⟨p, a⟩ := d
    unfold stepW at hx
    cases hi : inv p a
    · simp only [hi] at hx; cases hx
    · simp only [hi] at hx
      cases hn : nxt p a with
      | some b =>
        simp only [hn] at hx
        obtain rfl := Option.some.inj hx
        exact (hr p a hi).1 b hn
      | none =>
        simp only [hn] at hx
        obtain ⟨r, h1, h2⟩ := T.eval_bind_some (show ((out p a).bind fun r => .ret (.out r.1 r.2)).eval = some x from hx)
        obtain rfl := Option.some.inj h2
        exact ((hr p a hi).2 hn r h1).2
  · obtain ⟨p, a⟩ := d
    unfold resW at h
    cases hi : inv p a
    · simp only [hi] at h; cases h
    · simp only [hi] at h
      have h' : (out p (endW (nxt p) a)).eval = some r := h
      have hI : ∀ a b, inv p a = true → nxt p a = some b → inv p b = true ∧ μ p b < μ p a := fun a b h e => hs p a b h e
      obtain ⟨e, he⟩ := runW_some hI (μ p a) a hi (Nat.le_refl _)
      rw [endW_eq he] at h'
      refine ⟨μ p a + 1, ?_⟩
      clear h
      generalize μ p a = n at he
      clear hI
      induction n generalizing a with
      | zero =>
        unfold runW at he
        unfold iter
        rw [T.eval_bind]
        cases hn : nxt p a <;> rw [hn] at he
        · simp only [Option.some.injEq] at he
          subst he
          rw [stepW_none hi hn h']
          have := ((hr p a hi).2 hn r h').1
          obtain ⟨r1, r2⟩ := r
          cases r1 <;> first | rfl | exact absurd rfl this
        · cases he
      | succ n ih =>
        unfold runW at he
        unfold iter
        rw [T.eval_bind]
        cases hn : nxt p a with
        | none =>
          rw [hn] at he
          simp only [Option.some.injEq] at he
          subst he
          rw [stepW_none hi hn h']
          have := ((hr p a hi).2 hn r h').1
          obtain ⟨r1, r2⟩ := r
          cases r1 <;> first | rfl | exact absurd rfl this
        | some b =>
          rw [hn] at he
          rw [stepW_some hi hn]
          exact ih b (hs p a b hi hn).1 he
end Go.Eng
