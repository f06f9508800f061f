/- The machine: numbers of a state's blocks changed. No program is named here. -/
import Derived.Test.YtheknddbbgjpkaaEngG
namespace Go.Eng
open Go.RowKit
set_option linter.unusedVariables false
set_option linter.unusedSimpArgs false
def renTm (σ : Nat → Nat) : Tm → Tm
  | [] => []
  | (t, v) :: r => (t, v.ren σ) :: renTm σ r
def renHp (σ : Nat → Nat) : Heap → Heap
  | [] => []
  | (i, b) :: r => (σ i, b.ren σ) :: renHp σ r
theorem V.ren_junk {σ : Nat → Nat} (v : V) : (v.ren σ).isJunk = v.isJunk := by cases v <;> rfl
theorem renTm_get {σ : Nat → Nat} : ∀ (l : Tm) (t : Nat), getT (renTm σ l) t = (getT l t).ren σ
  | [], t => rfl
  | (j, v) :: r, t => by
    simp only [renTm, getT]
    split
    · rfl
    · exact renTm_get r t
theorem renHp_mem {σ : Nat → Nat} : ∀ {h : Heap} {i : Nat} {b : Blk}, (i, b) ∈ renHp σ h → ∃ j b0, (j, b0) ∈ h ∧ i = σ j ∧ b = b0.ren σ
  | (j, b0) :: r, i, b, hm => by
    simp only [renHp, List.mem_cons, Prod.mk.injEq] at hm
    rcases hm with ⟨rfl, rfl⟩ | hm
    · exact ⟨j, b0, List.mem_cons_self, rfl, rfl⟩
    · obtain ⟨j', b', h1, h2, h3⟩ := renHp_mem hm
      exact ⟨j', b', List.mem_cons_of_mem _ h1, h2, h3⟩
theorem keys_renHp {σ : Nat → Nat} : ∀ h : Heap, keysN (renHp σ h) = (keysN h).map σ
  | [] => rfl
  | (i, b) :: r => by
    show σ i :: keysN (renHp σ r) = σ i :: (keysN r).map σ
    rw [keys_renHp r]
theorem inj_of_nodup {σ : Nat → Nat} : ∀ {l : List Nat}, nodupN (l.map σ) = true → ∀ i j, memN l i = true → memN l j = true → σ i = σ j → i = j
  | k :: r, hd, i, j, hi, hj, e => by
    simp only [List.map_cons, nodupN, Bool.and_eq_true, Bool.not_eq_true'] at hd
    have mm : ∀ {l : List Nat} {x : Nat}, memN l x = true → memN (l.map σ) (σ x) = true := by
      intro l
      induction l with
      | nil => intro x h; cases h
      | cons y q ih =>
        intro x h
        simp only [memN, List.map_cons, Bool.or_eq_true] at h ⊢
        rcases h with h | h
        · exact .inl (by rw [Nat.eq_of_beq_eq_true h]; simp [Nat.beq_eq])
        · exact .inr (ih h)
    simp only [memN, Bool.or_eq_true] at hi hj
    rcases hi with hi | hi <;> rcases hj with hj | hj
    · rw [← Nat.eq_of_beq_eq_true hi, ← Nat.eq_of_beq_eq_true hj]
    · have := mm hj
      rw [← e, ← Nat.eq_of_beq_eq_true hi, hd.1] at this; cases this
    · have := mm hi
      rw [e, ← Nat.eq_of_beq_eq_true hj, hd.1] at this; cases this
    · exact inj_of_nodup hd.2 i j hi hj e
/-- **A state by other numbers**: those below n0 stay. -/
theorem Says.ren {ν0 : Env} {n0 : Nat} {w0 : World} {F0 : Nat → Prop} {ν : Env} {st : St} {a : Act} {w : World} (hs : Says ν0 n0 w0 F0 ν st a w) {σ : Nat → Nat} {next' : Nat}
    (hT : ∀ t, (getT st.tmps t).isJunk = false → (getT st.tmps t).ok (inH st.heap) = true) (hH : ∀ i b, look st.heap i = some b → b.ok (inH st.heap) = true) (hd : nodupN (keysN st.heap) = true) (hd' : nodupN ((keysN st.heap).map σ) = true)
    (hσ : ∀ i, inH st.heap i = true → (σ i = i ∨ n0 ≤ σ i) ∧ σ i < next') (hn : n0 ≤ next') : ∃ ν', Says ν0 n0 w0 F0 ν' ⟨renTm σ st.tmps, renHp σ st.heap, next', st.size⟩ a w := by
  have inj := inj_of_nodup hd'
  have hmk : ∀ i, inH st.heap i = true → memN (keysN st.heap) i = true := fun i hi => by rw [mem_keys]; exact hi
  -- where a new number comes from
  let back : Nat → Nat := fun j => nthN (keysN st.heap) (posN ((keysN st.heap).map σ) j)
  have memmap : ∀ {l : List Nat} {x : Nat}, memN l x = true → memN (l.map σ) (σ x) = true := by
    intro l
    induction l with
    | nil => intro x h; cases h
    | cons y q ih =>
      intro x h
      simp only [memN, List.map_cons, Bool.or_eq_true] at h ⊢
      rcases h with h | h
      · exact .inl (by rw [Nat.eq_of_beq_eq_true h]; simp [Nat.beq_eq])
      · exact .inr (ih h)
  have nthmap : ∀ {l : List Nat} {n : Nat}, n < l.length → nthN (l.map σ) n = σ (nthN l n) := by
    intro l
    induction l with
    | nil => intro n h; simp at h
    | cons y q ih =>
      intro n h
      cases n with
      | zero => rfl
      | succ n => exact ih (by simpa using h)
  have hback : ∀ i, inH st.heap i = true → back (σ i) = i := by
    intro i hi
    have h1 := hmk i hi
    obtain ⟨e1, e2⟩ := nth_pos (memmap h1)
    have e2' : posN ((keysN st.heap).map σ) (σ i) < (keysN st.heap).length := by simpa using e2
    rw [nthmap e2'] at e1
    refine inj _ _ (mem_nth e2') h1 e1
  let ν' : Env := fun j => if memN ((keysN st.heap).map σ) j = true then ν (back j) else ν j
  have hν : ∀ i, inH st.heap i = true → ν' (σ i) = ν i := by
    intro i hi
    show (if memN ((keysN st.heap).map σ) (σ i) = true then ν (back (σ i)) else _) = _
    rw [if_pos (memmap (hmk i hi)), hback i hi]
  have hcore : ∀ i, inH st.heap i = true → (ν' (σ i)).core = (ν i).core := fun i hi => by rw [hν i hi]
  have hlook : ∀ i b, look (renHp σ st.heap) i = some b → ∃ j b0, look st.heap j = some b0 ∧ i = σ j ∧ b = b0.ren σ := by
    intro i b e
    obtain ⟨j, b0, h1, h2, h3⟩ := renHp_mem (mem_of_look e)
    exact ⟨j, b0, look_mem_nodup hd h1, h2, h3⟩
  have hin : ∀ {i b}, look st.heap i = some b → inH st.heap i = true := fun e => by unfold inH; rw [e]; rfl
  have hlt : ∀ i, inH st.heap i = true → lt next' (σ i) = true := fun i hi => lt_iff.2 (hσ i hi).2
  refine ⟨ν', ⟨hs.1.size, ?_, ?_, hs.1.defers, ⟨?_, ?_⟩, ?_, ?_, hs.1.prog, ?_, ?_⟩, hn⟩
  · intro t ht
    simp only [renTm_get, V.ren_junk] at ht
    exact hs.1.dom t ht
  · intro t ht
    simp only [renTm_get, V.ren_junk] at ht ⊢
    rw [hs.1.tmp t ht, V.ren_den (p := inH st.heap) hcore _ (hT t ht)]
  · intro i b e
    obtain ⟨j, b0, h1, rfl, rfl⟩ := hlook i b e
    exact Blk.ren_den (p := inH st.heap) hcore (by rw [hν j (hin h1)]) (by rw [hν j (hin h1)]) (hH j b0 h1) (hs.1.rel.den j b0 h1)
  · intro i j bi bj ne ei ej ho k hk hk'
    obtain ⟨i0, b0, h1, rfl, rfl⟩ := hlook i bi ei
    obtain ⟨j0, b1, h2, rfl, rfl⟩ := hlook j bj ej
    rw [hν i0 (hin h1)] at hk
    rw [hν j0 (hin h2)] at hk'
    rw [Blk.ren_owned] at ho
    exact hs.1.rel.dis i0 j0 b0 b1 (fun e => ne (by rw [e])) h1 h2 ho k hk hk'
  · intro t ht
    simp only [renTm_get, V.ren_junk] at ht ⊢
    exact V.ren_ok (p := inH st.heap) hlt _ (hT t ht)
  · intro i b e
    obtain ⟨j, b0, h1, rfl, rfl⟩ := hlook i b e
    exact ⟨Blk.ren_ok (p := inH st.heap) hlt _ (hH j b0 h1), hlt j (hin h1)⟩
  · intro i b e ho k hk
    obtain ⟨j, b0, h1, rfl, rfl⟩ := hlook i b e
    rw [hν j (hin h1)] at hk
    rw [Blk.ren_owned] at ho
    exact hs.1.own j b0 h1 ho k hk
  · intro i hi
    rw [← hs.1.base i hi]
    show (if memN ((keysN st.heap).map σ) i = true then ν (back i) else ν i).core = _
    by_cases q : memN ((keysN st.heap).map σ) i = true
    · rw [if_pos q]
      obtain ⟨e1, e2⟩ := nth_pos q
      have e2' : posN ((keysN st.heap).map σ) i < (keysN st.heap).length := by simpa using e2
      rw [nthmap e2'] at e1
      have hb : inH st.heap (back i) = true := by rw [← mem_keys]; exact mem_nth e2'
      have e3 : σ (back i) = i := e1
      rcases (hσ (back i) hb).1 with h | h
      · rw [h] at e3; rw [e3]
      · omega
    · rw [if_neg q]
/-! ### loops whose blocks change their numbers -/
/-- where a block that is kept at the loop's head is found: at the same number, or by a place of the state that leads to it -/
inductive Src where
  | same
  | cell (i n : Nat)
  | tmp (t : Nat)
def idOf : V → Option Nat
  | .sub i _ _ _ => some i
  | .ptr i _ => some i
  | .sl i _ _ _ => some i
  | _ => none
def srcN (st : St) (j : Nat) : Src → Option Nat
  | .same => some j
  | .tmp t => idOf (getT st.tmps t)
  | .cell i n => match Eng.look st.heap i with
    | some (.cells _ l) => (l[n]?).bind idOf
    | _ => none
def srcsN (st : St) : List (Nat × Src) → Option (List Nat)
  | [] => some []
  | (j, x) :: r => match srcN st j x, srcsN st r with
    | some i, some l => some (i :: l)
    | _, _ => none
def ren0 (K ss : List Nat) (i : Nat) : Nat := nthN K (posN ss i)
def okR (K ss : List Nat) (m M : Nat) (s : St) : Bool :=
  (s.tmps.all fun p => p.2.isJunk || p.2.ok (inH s.heap)) && (s.heap.all fun p => p.2.ok (inH s.heap)) && nodupN (keysN s.heap) && nodupN K && ((keysN s.heap).all fun i => (Nat.beq (ren0 K ss i) i || Nat.ble m (ren0 K ss i)) && Nat.blt (ren0 K ss i) M) && Nat.ble m M
def keysR (S0 : List (Nat × Src)) : List Nat := S0.map (·.1)
/-- a state with all forgotten but these slots and blocks, the blocks by their numbers at the loop's head -/
def wkStR (T0 : List Nat) (S0 : List (Nat × Src)) (m M : Nat) (st : St) : T St :=
  opt (srcsN st S0) fun ss => (wkSt T0 ss st.next st).bind fun s =>
    if okR (keysR S0) ss m M s = true ∧ (keysN s.heap).map (ren0 (keysR S0) ss) = keysR S0 then .ret ⟨renTm (ren0 (keysR S0) ss) s.tmps, renHp (ren0 (keysR S0) ss) s.heap, M, s.size⟩ else .fail
theorem wkStR_some {T0 : List Nat} {S0 : List (Nat × Src)} {m M : Nat} {st st' : St} (h : (wkStR T0 S0 m M st).eval = some st') : ∃ ss s, (wkSt T0 ss st.next st).eval = some s ∧ okR (keysR S0) ss m M s = true ∧
    (keysN s.heap).map (ren0 (keysR S0) ss) = keysR S0 ∧ st' = ⟨renTm (ren0 (keysR S0) ss) s.tmps, renHp (ren0 (keysR S0) ss) s.heap, M, s.size⟩ := by
  obtain ⟨ss, h1, h⟩ := opt_eval h
  obtain ⟨s, h2, h⟩ := T.eval_bind_some h
  split at h
  · rename_i hc
    simp only [T.eval, Option.some.injEq] at h
    exact ⟨ss, s, h2, hc.1, hc.2, h.symm⟩
  · cases h
theorem getT_mem : ∀ {l : Tm} {t : Nat}, (getT l t).isJunk = false → ∃ p ∈ l, p.2 = getT l t
  | [], t, h => by simp [getT, V.isJunk] at h
  | (j, v) :: r, t, h => by
    simp only [getT] at h ⊢
    split
    · exact ⟨(j, v), List.mem_cons_self, rfl⟩
    · rename_i q
      rw [if_neg q] at h
      obtain ⟨p, h1, h2⟩ := getT_mem h
      exact ⟨p, List.mem_cons_of_mem _ h1, h2⟩
theorem memN_mem : ∀ {l : List Nat} {i : Nat}, memN l i = true → i ∈ l
  | k :: r, i, h => by
    simp only [memN, Bool.or_eq_true] at h
    rcases h with h | h
    · rw [Nat.eq_of_beq_eq_true h]; exact List.mem_cons_self
    · exact List.mem_cons_of_mem _ (memN_mem h)
theorem wkStR_says {T0 : List Nat} {S0 : List (Nat × Src)} {m M : Nat} {ν0 : Env} {n0 : Nat} {w0 : World} {F0 : Nat → Prop} {ν : Env} {st st' : St} {a : Act} {w : World} (hs : Says ν0 n0 w0 F0 ν st a w) (hn : n0 ≤ m)
    (h : (wkStR T0 S0 m M st).eval = some st') : ∃ ν', Says ν0 n0 w0 F0 ν' st' a w := by
  obtain ⟨ss, s, h1, h2, h3, rfl⟩ := wkStR_some h
  unfold okR at h2
  simp only [Bool.and_eq_true] at h2
  obtain ⟨⟨⟨⟨⟨c1, c2⟩, c3⟩, c4⟩, c5⟩, c6⟩ := h2
  have hs1 := wkSt_says hs hs.2 h1
  refine Says.ren hs1 (fun t ht => ?_) (fun i b e => List.all_eq_true.1 c2 _ (mem_of_look e)) c3 (by rw [h3]; exact c4) (fun i hi => ?_) (Nat.le_trans hn (Nat.le_of_ble_eq_true c6))
  · obtain ⟨p, q1, q2⟩ := getT_mem ht
    have := List.all_eq_true.1 c1 p q1
    rw [q2, ht] at this
    simpa using this
  · have := List.all_eq_true.1 c5 i (memN_mem (by rw [mem_keys]; exact hi))
    simp only [Bool.and_eq_true, Bool.or_eq_true] at this
    refine ⟨?_, by have := this.2; rwa [Nat.blt_eq] at this⟩
    rcases this.1 with q | q
    · exact .inl (Nat.eq_of_beq_eq_true q)
    · exact .inr (Nat.le_trans hn (Nat.le_of_ble_eq_true q))
theorem wkStR_mem {T0 : List Nat} {S0 : List (Nat × Src)} {m M : Nat} {st st' : St} (h : (wkStR T0 S0 m M st).eval = some st') : ∀ i b, look st'.heap i = some b → i ∈ keysR S0 := by
  obtain ⟨ss, s, h1, h2, h3, rfl⟩ := wkStR_some h
  intro i b e
  rw [← h3, ← keys_renHp]
  refine memN_mem ?_
  rw [mem_keys]
  unfold inH
  rw [e]; rfl
theorem wkStR_inv {T0 : List Nat} {S0 : List (Nat × Src)} {m M : Nat} {st st' : St} (h : (wkStR T0 S0 m M st).eval = some st') : Inv st' ∧ st'.next = M ∧ m ≤ M ∧ st'.size = st.size := by
  obtain ⟨ss, s, h1, h2, h3, rfl⟩ := wkStR_some h
  unfold okR at h2
  simp only [Bool.and_eq_true] at h2
  obtain ⟨⟨⟨⟨⟨c1, c2⟩, c3⟩, c4⟩, c5⟩, c6⟩ := h2
  refine ⟨fun i b e => ?_, rfl, Nat.le_of_ble_eq_true c6, ?_⟩
  · obtain ⟨j, b0, q1, rfl, rfl⟩ := renHp_mem (mem_of_look e)
    have hk : inH s.heap j = true := by
      unfold inH; rw [look_mem_nodup c3 q1]; rfl
    have := List.all_eq_true.1 c5 j (memN_mem (by rw [mem_keys]; exact hk))
    simp only [Bool.and_eq_true] at this
    have := this.2
    rwa [Nat.blt_eq] at this
  · obtain ⟨hp, e, h1'⟩ := opt_eval h1
    simp only [T.eval, Option.some.injEq] at h1'
    subst h1'; rfl
theorem renTm_keys {σ : Nat → Nat} : ∀ l : Tm, (renTm σ l).map (·.1) = l.map (·.1)
  | [] => rfl
  | (t, v) :: r => by simp only [renTm, List.map_cons, renTm_keys r]
theorem wkStR_mk {T0 : List Nat} {S0 : List (Nat × Src)} {m M : Nat} {st s : St} (h : (wkStR T0 S0 m M st).eval = some s) : s = mkSt T0 (keysR S0) M s.size (s.tmps.map (·.2)) (s.heap.map (·.2)) := by
  obtain ⟨ss, s1, h1, h2, h3, rfl⟩ := wkStR_some h
  unfold mkSt
  congr 1
  · refine zipK_self ?_
    rw [renTm_keys]
    obtain ⟨hp, e, h1'⟩ := opt_eval h1
    simp only [T.eval, Option.some.injEq] at h1'
    subst h1'
    exact wkTmps_keys _
  · refine zipK_self ?_
    show keysN (renHp _ s1.heap) = _
    rw [keys_renHp, h3]
def roundR (C : Cfg) (Λ : Loops) (body : Code) (T0 : List Nat) (S0 : List (Nat × Src)) (m M : Nat) (st : St) : T (Ex × St) :=
  (exec C Λ body st).bind fun x => (wkStR T0 S0 m M x.2).bind fun s => .ret (x.1, s)
def FamR (C : Cfg) (Λ : Loops) (body : Code) (T0 : List Nat) (S0 : List (Nat × Src)) (m M : Nat) {α : Type} (F : α → St) (step : α → T (Way α)) : Prop :=
  ∀ a x, (step a).eval = some x → (roundR C Λ body T0 S0 m M (F a)).eval = some (x.at F)
theorem famR_rounds {C : Cfg} (hC : C.Ok) (hm : C.P.follows .mixedOrders = true) {Λ : Loops} {c : Code} (hl : LoopsOk C Λ c) {T0 : List Nat} {S0 : List (Nat × Src)} {m M : Nat} {α : Type} {F : α → St} {step : α → T (Way α)} (hf : FamR C Λ c T0 S0 m M F step)
    {ν0 : Env} {n0 : Nat} {w0 : World} {F0 : Nat → Prop} (hn : n0 ≤ m) {Q : Exit → Act → World → Prop} :
    ∀ (n : Nat) (d : α) (r : Ex × St) (ν : Env) (a : Act) (w : World), (iter step n d).eval = some r → Says ν0 n0 w0 F0 ν (F d) a w → (∀ ν' a' w', Says ν0 n0 w0 F0 ν' r.2 a' w' → Q r.1.to a' w') → Code.rounds C.P c Q n a w
  | 0, d, r, ν, a, w, h, hs, hq => by cases h
  | n + 1, d, r, ν, a, w, h, hs, hq => by
    unfold iter at h
    obtain ⟨x, h1, h⟩ := T.eval_bind_some h
    obtain ⟨y, h2, h3⟩ := T.eval_bind_some (hf d x h1)
    obtain ⟨s, h4, h5⟩ := T.eval_bind_some h3
    simp only [T.eval, Option.some.injEq] at h5
    show c.wp C.P (Exit.then (Code.rounds C.P c Q n) Q) a w
    refine exec_ok hC hm c (F d) y _ ν a w hl h2 hs ?_
    intro ν' a' w' hs'
    obtain ⟨ν2, hs2⟩ := wkStR_says hs' hn h4
    cases x with
    | next d' =>
      simp only [Way.at, Prod.mk.injEq] at h5
      obtain ⟨e1, rfl⟩ := h5
      rw [e1]
      exact famR_rounds hC hm hl hf hn n d' r ν2 a' w' h hs2 hq
    | out e s' =>
      simp only [Way.at, Prod.mk.injEq] at h5
      obtain ⟨e1, rfl⟩ := h5
      rw [e1]
      cases e with
      | normal => cases h
      | exit i => simp only [T.eval, Option.some.injEq] at h; subst h; exact hq ν2 a' w' hs2
      | ret => simp only [T.eval, Option.some.injEq] at h; subst h; exact hq ν2 a' w' hs2
def famRL {α : Type} (T0 : List Nat) (S0 : List (Nat × Src)) (m M sz : Nat) (dec : List V → List Blk → Option α) (res : α → T (Ex × St)) : LSpec := fun st =>
  (wkStR T0 S0 m M st).bind fun s => if Nat.beq st.size sz && Nat.ble st.next m && apartB st.heap (keysR S0) then opt (dec (s.tmps.map (·.2)) (s.heap.map (·.2))) fun d => (res d).bind fun r => .ret (r.1, withLeaves st.heap r.2) else .fail
theorem iterR_blocks {C : Cfg} {Λ : Loops} {c : Code} {T0 : List Nat} {S0 : List (Nat × Src)} {m M : Nat} {α : Type} {F : α → St} {step : α → T (Way α)} (hf : FamR C Λ c T0 S0 m M F step) :
    ∀ (n : Nat) (d : α) (r : Ex × St), (iter step n d).eval = some r → ∃ st, (wkStR T0 S0 m M st).eval = some r.2
  | 0, d, r, h => by cases h
  | n + 1, d, r, h => by
    unfold iter at h
    obtain ⟨x, h1, h⟩ := T.eval_bind_some h
    cases x with
    | next d' => exact iterR_blocks hf n d' r h
    | out e s =>
      obtain ⟨y, h2, h3⟩ := T.eval_bind_some (hf d _ h1)
      obtain ⟨s', h4, h5⟩ := T.eval_bind_some h3
      simp only [T.eval, Option.some.injEq, Way.at, Prod.mk.injEq] at h5
      obtain ⟨e1, rfl⟩ := h5
      cases e with
      | normal => cases h
      | exit i => simp only [T.eval, Option.some.injEq] at h; subst h; exact ⟨_, h4⟩
      | ret => simp only [T.eval, Option.some.injEq] at h; subst h; exact ⟨_, h4⟩
theorem famRL_ok {C : Cfg} (hC : C.Ok) (hm : C.P.follows .mixedOrders = true) {Λ : Loops} {c : Code} (hl : LoopsOk C Λ c) {T0 : List Nat} {S0 : List (Nat × Src)} {m M sz : Nat} {α : Type} {vs : α → List V} {bs : α → List Blk} {step : α → T (Way α)}
    (hf : FamR C Λ c T0 S0 m M (fun d => mkSt T0 (keysR S0) M sz (vs d) (bs d)) step) {dec : List V → List Blk → Option α} {res : α → T (Ex × St)} (hd : ∀ l b d, dec l b = some d → l = vs d ∧ b = bs d) (hr : ∀ d r, (res d).eval = some r → ∃ n, (iter step n d).eval = some r) :
    LoopOk C c (famRL T0 S0 m M sz dec res) := by
  have open' : ∀ (st : St) (r : Ex × St), (famRL T0 S0 m M sz dec res st).eval = some r → ∃ s d r0 n, (wkStR T0 S0 m M st).eval = some s ∧ st.next ≤ m ∧ apartB st.heap (keysR S0) = true ∧ s = mkSt T0 (keysR S0) M sz (vs d) (bs d) ∧ (iter step n d).eval = some r0 ∧ r = (r0.1, withLeaves st.heap r0.2) := by
    intro st r h
    obtain ⟨s, h1, h⟩ := T.eval_bind_some h
    split at h
    · rename_i hc
      simp only [Bool.and_eq_true] at hc
      obtain ⟨d, h2, h⟩ := opt_eval h
      obtain ⟨r0, h3, h⟩ := T.eval_bind_some h
      simp only [T.eval, Option.some.injEq] at h
      obtain ⟨n, hn⟩ := hr d r0 h3
      have hsz : s.size = sz := by rw [(wkStR_inv h1).2.2.2]; exact Nat.eq_of_beq_eq_true hc.1.1
      have hmk := wkStR_mk h1
      obtain ⟨e1, e2⟩ := hd _ _ _ h2
      rw [hsz, e1, e2] at hmk
      exact ⟨s, d, r0, n, h1, Nat.le_of_ble_eq_true hc.1.2, hc.2, hmk, hn, h.symm⟩
    · cases h
  refine ⟨fun st r h ν0 n0 w0 F0 ν a w Q hs hq => ?_, fun st r h hi => ?_⟩
  · obtain ⟨s, d, r0, n, h1, h3, h4, rfl, h5, rfl⟩ := open' st r h
    have hsr := hs.rebase
    obtain ⟨ν1, hs1⟩ := wkStR_says hsr h3 h1
    refine wp_loop_rounds n (famR_rounds hC hm hl hf h3 n d r0 ν1 a w h5 hs1 ?_)
    intro ν' a' w' hs'
    obtain ⟨q, hq1⟩ := iterR_blocks hf n d r0 h5
    obtain ⟨ν'', hs''⟩ := withLeaves_says (h := st.heap) (fun i b hb => lt_iff.1 (hs.1.okH i b hb).2) (fun i c hc => (hs.1.rel.den i _ hc).1) hs' (by rw [(wkStR_inv hq1).2.1]; exact Nat.le_trans h3 (wkStR_inv hq1).2.2.1) (fun i c hc => by
      cases e : look r0.2.heap i with
      | none => rfl
      | some b => exact absurd (wkStR_mem hq1 i b e) (apartB_of h4 hc))
    refine hq ν'' a' w' (hs.back hs.2 hs'' ?_)
    rintro k ⟨i, b, hb, ho, hk⟩
    exact hs.1.own i b hb ho k hk
  · obtain ⟨s, d, r0, n, h1, h3, h4, rfl, h5, rfl⟩ := open' st r h
    obtain ⟨q, hq1⟩ := iterR_blocks hf n d r0 h5
    have hM : m ≤ r0.2.next := by rw [(wkStR_inv hq1).2.1]; exact (wkStR_inv hq1).2.2.1
    refine ⟨fun i b hb => ?_, fun i c hc => ?_⟩
    · simp only [withLeaves, look_append, over] at hb
      show i < r0.2.next
      cases e : look r0.2.heap i with
      | some b' => exact (wkStR_inv hq1).1 i b' e
      | none =>
        rw [e] at hb
        exact Nat.lt_of_lt_of_le (hi i b (look_lvs.2 b hb).1) (Nat.le_trans h3 hM)
    · simp only [withLeaves, look_append, over]
      cases e : look r0.2.heap i with
      | some b' => exact absurd (wkStR_mem hq1 i b' e) (apartB_of h4 hc)
      | none => exact look_lvs.1 c hc (look_mem_ids hc)
noncomputable def famWR {P A : Type} (T0 : List Nat) (S0 : List (Nat × Src)) (m M sz : Nat) (dec : List V → List Blk → Option (P × A)) (inv : P → A → Bool) (nxt : P → A → Option A) (out : P → A → T (Ex × St)) : LSpec :=
  famRL T0 S0 m M sz dec (resW inv nxt out)
theorem famWR_ok {C : Cfg} (hC : C.Ok) (hm : C.P.follows .mixedOrders = true) {Λ : Loops} {c : Code} (hl : LoopsOk C Λ c) {T0 : List Nat} {S0 : List (Nat × Src)} {m M sz : Nat} {P A : Type} {vs : P → A → List V} {bs : P → A → List Blk}
    {inv : P → A → Bool} {nxt : P → A → Option A} {out : P → A → T (Ex × St)} {dec : List V → List Blk → Option (P × A)}
    (hd : ∀ l b d, dec l b = some d → l = vs d.1 d.2 ∧ b = bs d.1 d.2) (μ : P → A → Nat)
    (hs : ∀ p a b, inv p a = true → nxt p a = some b → inv p b = true ∧ μ p b < μ p a)
    (hr : ∀ p a, inv p a = true → (∀ b, nxt p a = some b → (roundR C Λ c T0 S0 m M (mkSt T0 (keysR S0) M sz (vs p a) (bs p a))).eval = some (.normal, mkSt T0 (keysR S0) M sz (vs p b) (bs p b))) ∧
      (nxt p a = none → ∀ r, (out p a).eval = some r → r.1 ≠ .normal ∧ (roundR C Λ c T0 S0 m M (mkSt T0 (keysR S0) M sz (vs p a) (bs p a))).eval = some r)) :
    LoopOk C c (famWR T0 S0 m M sz dec inv nxt out) := by
  refine famRL_ok hC hm hl (vs := fun d => vs d.1 d.2) (bs := fun d => bs d.1 d.2) (step := stepW inv nxt out) (fun d x hx => ?_) hd fun d r h => ?_
  · obtain ⟨p, a⟩ := d
    unfold stepW at hx
    cases hi : inv p a
    · simp only [hi] at hx; cases hx
    · simp only [hi] at hx
      cases hn : nxt p a with
      | some b =>
        simp only [hn] at hx
        obtain rfl := Option.some.inj hx
        exact (hr p a hi).1 b hn
      | none =>
        simp only [hn] at hx
        obtain ⟨r, h1, h2⟩ := T.eval_bind_some (show ((out p a).bind fun r => .ret (.out r.1 r.2)).eval = some x from hx)
        obtain rfl := Option.some.inj h2
        exact ((hr p a hi).2 hn r h1).2
  · obtain ⟨p, a⟩ := d
    unfold resW at h
    cases hi : inv p a
    · simp only [hi] at h; cases h
    · simp only [hi] at h
      have h' : (out p (endW (nxt p) a)).eval = some r := h
      have hI : ∀ a b, inv p a = true → nxt p a = some b → inv p b = true ∧ μ p b < μ p a := fun a b h e => hs p a b h e
      obtain ⟨e, he⟩ := runW_some hI (μ p a) a hi (Nat.le_refl _)
      rw [endW_eq he] at h'
      refine ⟨μ p a + 1, ?_⟩
      clear h
      generalize μ p a = n at he
      clear hI
      induction n generalizing a with
      | zero =>
        unfold runW at he
        unfold iter
        rw [T.eval_bind]
        cases hn : nxt p a <;> rw [hn] at he
        · simp only [Option.some.injEq] at he
          subst he
          rw [stepW_none hi hn h']
          have := ((hr p a hi).2 hn r h').1
          obtain ⟨r1, r2⟩ := r
          cases r1 <;> first | rfl | exact absurd rfl this
        · cases he
      | succ n ih =>
        unfold runW at he
        unfold iter
        rw [T.eval_bind]
        cases hn : nxt p a with
        | none =>
          rw [hn] at he
          simp only [Option.some.injEq] at he
          subst he
          rw [stepW_none hi hn h']
          have := ((hr p a hi).2 hn r h').1
          obtain ⟨r1, r2⟩ := r
          cases r1 <;> first | rfl | exact absurd rfl this
        | some b =>
          rw [hn] at he
          rw [stepW_some hi hn]
          exact ih b (hs p a b hi hn).1 he
end Go.Eng
