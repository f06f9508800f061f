/- The machine, fourth part: loops by families of states: what is kept from round to round is told, all else forgotten. No program is named here. -/
import Derived.Test.YtheknddbbgjpkaaEngC
import Derived.Test.YtheknddbbgjpkaaYes
namespace Go.Eng
open Go.RowKit
set_option linter.unusedVariables false
set_option linter.unusedSimpArgs false

/-- a value kept: what is plain read, references as they are -/
def wkV (L : Look) (m : Nat) (v : V) : V :=
  match v with
  | .ptr i off => if Nat.blt i m then .ptr i off else .junk
  | .sl i off len cap => if Nat.blt i m then .sl i off len cap else .junk
  | .pr i sz row fld => if Nat.blt i m then .pr i sz row fld else .junk
  | .sub i sz off len => if Nat.blt i m then .sub i sz off len else .junk
  | v => if flat (detach L v) then detach L v else .junk
theorem wkV_den {ν : Env} {L : Look} {w : World} (hr : Rel ν L w) {m : Nat} {v : V} (h : (wkV L m v).isJunk = false) : (wkV L m v).den ν = v.den ν := by
  unfold wkV at h ⊢
  split
  · split
    · rfl
    · rename_i hn; simp [hn, V.isJunk] at h
  · split
    · rfl
    · rename_i hn; simp [hn, V.isJunk] at h
  · split
    · rfl
    · rename_i hn; simp [hn, V.isJunk] at h
  · split
    · rfl
    · rename_i hn; simp [hn, V.isJunk] at h
  · split
    · rename_i hf; exact detach_den hr _ hf
    · rename_i hn; simp [hn, V.isJunk] at h
theorem wkV_ok {L : Look} {m : Nat} {v : V} (h : (wkV L m v).isJunk = false) : (wkV L m v).ok (lt m) = true := by
  unfold wkV at h ⊢
  split
  · split
    · rename_i hb; exact hb
    · rename_i hn; simp [hn, V.isJunk] at h
  · split
    · rename_i hb; exact hb
    · rename_i hn; simp [hn, V.isJunk] at h
  · split
    · rename_i hb; exact hb
    · rename_i hn; simp [hn, V.isJunk] at h
  · split
    · rename_i hb; exact hb
    · rename_i hn; simp [hn, V.isJunk] at h
  · split
    · rename_i hf; exact V.ok_mono (fun i hi => by cases hi) _ hf
    · rename_i hn; simp [hn, V.isJunk] at h
theorem wkV_junk {L : Look} {m : Nat} {v : V} (h : (wkV L m v).isJunk = false) : v.isJunk = false := by
  cases v <;> first | rfl | (simp [wkV, detach, flat, V.ok, V.isJunk] at h)

def wkTmps (L : Look) (m : Nat) (l : Tm) : List Nat → Tm
  | [] => []
  | t :: r => (t, wkV L m (getT l t)) :: wkTmps L m l r
theorem wkTmps_get {L : Look} {m : Nat} {l : Tm} : ∀ (K : List Nat) (t : Nat), getT (wkTmps L m l K) t = .junk ∨ getT (wkTmps L m l K) t = wkV L m (getT l t)
  | [], t => .inl rfl
  | k :: r, t => by
    simp only [wkTmps, getT]
    by_cases e : (k == t) = true
    · simp only [e, if_true]; simp at e; subst e; exact .inr rfl
    · simp only [e]; exact wkTmps_get r t
def wkHeap (h : Heap) (m : Nat) : List Nat → Option Heap
  | [] => some []
  | i :: r => match look h i with
    | some b => if b.ok (lt m) && Nat.blt i m then (wkHeap h m r).map ((i, b) :: ·) else none
    | none => none
theorem wkHeap_look {h : Heap} {m : Nat} : ∀ {K : List Nat} {h' : Heap}, wkHeap h m K = some h' → ∀ i b, look h' i = some b → look h i = some b ∧ b.ok (lt m) = true ∧ i < m
  | [], h', e, i, b, hb => by
    simp only [wkHeap, Option.some.injEq] at e; subst e; cases hb
  | k :: r, h', e, i, b, hb => by
    unfold wkHeap at e
    split at e
    · rename_i bk hk
      split at e
      · rename_i hc
        simp only [Bool.and_eq_true] at hc
        obtain ⟨h1, e1, rfl⟩ := Option.map_eq_some_iff.1 e
        simp only [look] at hb
        by_cases q : (k == i) = true
        · simp only [q, if_true, Option.some.injEq] at hb
          simp at q; subst q; subst hb
          exact ⟨hk, hc.1, by simpa using hc.2⟩
        · simp only [q] at hb
          exact wkHeap_look e1 i b (by simpa using hb)
      · cases e
    · cases e
/-- a state with all forgotten but these slots and blocks; its next number is m -/
def wkSt (T0 H0 : List Nat) (m : Nat) (st : St) : T St :=
  opt (wkHeap st.heap m H0) fun h => .ret ⟨wkTmps (look st.heap) m st.tmps T0, h, m, st.size⟩
theorem wkSt_inv {T0 H0 : List Nat} {m : Nat} {st st' : St} (h : (wkSt T0 H0 m st).eval = some st') : Inv st' ∧ st'.next = m := by
  obtain ⟨hp, e, h⟩ := opt_eval h
  simp only [T.eval, Option.some.injEq] at h
  subst h
  exact ⟨fun i b hb => (wkHeap_look e i b hb).2.2, rfl⟩
theorem wkSt_says {ν0 : Env} {n0 : Nat} {w0 : World} {F0 : Nat → Prop} {ν : Env} {T0 H0 : List Nat} {m : Nat} {st st' : St} {a : Act} {w : World} (hs : Says ν0 n0 w0 F0 ν st a w) (hn : n0 ≤ m)
    (h : (wkSt T0 H0 m st).eval = some st') : Says ν0 n0 w0 F0 ν st' a w := by
  obtain ⟨hp, e, h⟩ := opt_eval h
  simp only [T.eval, Option.some.injEq] at h
  subst h
  have hl := wkHeap_look e
  have key : ∀ t, (getT (wkTmps (look st.heap) m st.tmps T0) t).isJunk = false → getT (wkTmps (look st.heap) m st.tmps T0) t = wkV (look st.heap) m (getT st.tmps t) ∧ (wkV (look st.heap) m (getT st.tmps t)).isJunk = false := by
    intro t ht
    rcases wkTmps_get T0 t (L := look st.heap) (m := m) (l := st.tmps) with q | q
    · rw [q] at ht; cases ht
    · rw [q] at ht; exact ⟨q, ht⟩
  refine ⟨⟨hs.1.size, ?_, ?_, hs.1.defers, hs.1.rel.sub fun i b hb => (hl i b hb).1, ?_, ?_, hs.1.prog, ?_, hs.1.base⟩, hn⟩
  · intro t ht
    exact hs.1.dom t (wkV_junk (key t ht).2)
  · intro t ht
    rw [(key t ht).1, wkV_den hs.1.rel (key t ht).2]
    exact hs.1.tmp t (wkV_junk (key t ht).2)
  · intro t ht
    rw [(key t ht).1]
    exact wkV_ok (key t ht).2
  · intro i b hb
    exact ⟨(hl i b hb).2.1, lt_iff.2 (hl i b hb).2.2⟩
  · intro i b hb ho
    exact hs.1.own i b (hl i b hb).1 ho

/-- one round, and what is kept of it -/
def roundT (C : Cfg) (Λ : Loops) (body : Code) (T0 H0 : List Nat) (m : Nat) (st : St) : T (Ex × St) :=
  (exec C Λ body st).bind fun x => (wkSt T0 H0 m x.2).bind fun s => .ret (x.1, s)
/-- where a round leads: to the next one's data, or out -/
inductive Way (α : Type) where
  | next (a : α) | out (e : Ex) (s : St)
def Way.at {α : Type} (F : α → St) : Way α → Ex × St
  | .next a => (.normal, F a)
  | .out e s => (e, s)
def Way.fair {α : Type} : Way α → Bool
  | .out .normal _ => false
  | _ => true
/-- rounds, one after another, at most n -/
def iter {α : Type} (step : α → T (Way α)) : Nat → α → T (Ex × St)
  | 0, _ => .fail
  | n + 1, a => (step a).bind fun x => match x with
    | .next a => iter step n a
    | .out .normal _ => .fail
    | .out e s => .ret (e, s)
/-- the rounds of a loop are those of its data -/
def FamOk (C : Cfg) (Λ : Loops) (body : Code) (T0 H0 : List Nat) (m : Nat) {α : Type} (F : α → St) (step : α → T (Way α)) : Prop :=
  ∀ a x, (step a).eval = some x → (roundT C Λ body T0 H0 m (F a)).eval = some (x.at F)
theorem FamOk.of_tree {C : Cfg} {Λ : Loops} {body : Code} {T0 H0 : List Nat} {m : Nat} {α : Type} {F : α → St} {step : α → T (Way α)}
    (h : ∀ a, (roundT C Λ body T0 H0 m (F a)).anon = ((step a).bind fun x => .ret (x.at F)).anon) : FamOk C Λ body T0 H0 m F step := by
  intro a x hx
  rw [← T.eval_anon, h, T.eval_anon, T.eval_bind, hx]
  rfl
theorem fam_rounds {C : Cfg} (hC : C.Ok) (hm : C.P.follows .mixedOrders = true) {Λ : Loops} {c : Code} (hl : LoopsOk C Λ c) {T0 H0 : List Nat} {m : Nat} {α : Type} {F : α → St} {step : α → T (Way α)} (hf : FamOk C Λ c T0 H0 m F step)
    {ν0 : Env} {n0 : Nat} {w0 : World} {F0 : Nat → Prop} (hn : n0 ≤ m) {Q : Exit → Act → World → Prop} :
    ∀ (n : Nat) (d : α) (r : Ex × St) (ν : Env) (a : Act) (w : World), (iter step n d).eval = some r → Says ν0 n0 w0 F0 ν (F d) a w → (∀ ν' a' w', Says ν0 n0 w0 F0 ν' r.2 a' w' → Q r.1.to a' w') → Code.rounds C.P c Q n a w
  | 0, d, r, ν, a, w, h, hs, hq => by cases h
  | n + 1, d, r, ν, a, w, h, hs, hq => by
    unfold iter at h
    obtain ⟨x, h1, h⟩ := T.eval_bind_some h
    obtain ⟨y, h2, h3⟩ := T.eval_bind_some (hf d x h1)
    obtain ⟨s, h4, h5⟩ := T.eval_bind_some h3
    simp only [T.eval, Option.some.injEq] at h5
    show c.wp C.P (Exit.then (Code.rounds C.P c Q n) Q) a w
    refine exec_ok hC hm c (F d) y _ ν a w hl h2 hs ?_
    intro ν' a' w' hs'
    have hs2 := wkSt_says hs' hn h4
    cases x with
    | next d' =>
      simp only [Way.at, Prod.mk.injEq] at h5
      obtain ⟨e1, rfl⟩ := h5
      rw [e1]
      exact fam_rounds hC hm hl hf hn n d' r ν' a' w' h hs2 hq
    | out e s' =>
      simp only [Way.at, Prod.mk.injEq] at h5
      obtain ⟨e1, rfl⟩ := h5
      rw [e1]
      cases e with
      | normal => cases h
      | exit i => simp only [T.eval, Option.some.injEq] at h; subst h; exact hq ν' a' w' hs2
      | ret => simp only [T.eval, Option.some.injEq] at h; subst h; exact hq ν' a' w' hs2

/-! #### the loop beside what it does not touch: the truths that are known -/
theorem Says.rebase {ν0 : Env} {n0 : Nat} {w0 : World} {F0 : Nat → Prop} {ν : Env} {st : St} {a : Act} {w : World} (h : Says ν0 n0 w0 F0 ν st a w) :
    Says ν st.next w (fun k => ∃ i b, look st.heap i = some b ∧ b.owned = true ∧ (ν i).fp k) ν st a w :=
  ⟨{ h.1 with
      prog := Prog.refl w _
      own := fun i b hb ho k hk => .inl ⟨i, b, hb, ho, hk⟩
      base := fun i hi => rfl }, Nat.le_refl _⟩
theorem Says.back {ν0 : Env} {n0 : Nat} {w0 : World} {F0 F1 : Nat → Prop} {ν ν' : Env} {st st' : St} {a a' : Act} {w w' : World} {n : Nat} (h : Says ν0 n0 w0 F0 ν st a w) (hn : n0 ≤ n) (h' : Says ν n w F1 ν' st' a' w')
    (hF : ∀ k, F1 k → F0 k ∨ w0.heap.size ≤ k) : Says ν0 n0 w0 F0 ν' st' a' w' :=
  ⟨{ h'.1 with
      prog := h.1.prog.trans h'.1.prog (fun _ hk => hk) fun i hi hk => by
        rcases hF i hk with q | q
        · exact q
        · omega
      own := fun i b hb ho k hk => by
        rcases h'.1.own i b hb ho k hk with q | q
        · exact hF k q
        · exact .inr (Nat.le_trans h.1.prog.size q)
      base := fun i hi => (h'.1.base i (by omega)).trans (h.1.base i hi) }, Nat.le_trans hn h'.2⟩
def onlyLeaves : Heap → Heap
  | [] => []
  | (i, .leaf b) :: r => (i, .leaf b) :: onlyLeaves r
  | _ :: r => onlyLeaves r
def leafOf (h : Heap) (i : Nat) : Option Bool :=
  match look h i with
  | some (.leaf c) => some c
  | _ => none
def lvs (h : Heap) : List Nat → Heap
  | [] => []
  | i :: r => match leafOf h i with
    | some c => (i, .leaf c) :: lvs h r
    | none => lvs h r
def ids (h : Heap) : List Nat := h.map (·.1)
theorem look_mem_ids {h : Heap} {i : Nat} {b : Blk} (e : look h i = some b) : i ∈ ids h := List.mem_map.2 ⟨_, mem_of_look e, rfl⟩
theorem leafOf_some {h : Heap} {i : Nat} {c : Bool} (e : leafOf h i = some c) : look h i = some (.leaf c) := by
  unfold leafOf at e
  split at e
  · simp only [Option.some.injEq] at e; subst e; assumption
  · cases e
theorem look_lvs {h : Heap} : ∀ {K : List Nat} {i : Nat}, (∀ c, look h i = some (.leaf c) → i ∈ K → look (lvs h K) i = some (.leaf c)) ∧ (∀ b, look (lvs h K) i = some b → look h i = some b ∧ ∃ c, b = .leaf c)
  | [], i => ⟨fun c _ hm => (by cases hm), fun b hb => (by cases hb)⟩
  | k :: r, i => by
    obtain ⟨ih1, ih2⟩ := look_lvs (h := h) (K := r) (i := i)
    unfold lvs
    cases hk : leafOf h k with
    | none =>
      refine ⟨fun c hc hm => ?_, ih2⟩
      rcases List.mem_cons.1 hm with rfl | hm
      · simp [leafOf, hc] at hk
      · exact ih1 c hc hm
    | some d =>
      have hd := leafOf_some hk
      by_cases q : (k == i) = true
      · have : k = i := by simpa using q
        subst this
        refine ⟨fun c hc _ => ?_, fun b hb => ?_⟩
        · rw [hc] at hd; cases hd; simp [look]
        · simp only [look, q, if_true, Option.some.injEq] at hb; subst hb; exact ⟨hd, d, rfl⟩
      · have qf : (k == i) = false := by simpa using q
        refine ⟨fun c hc hm => ?_, fun b hb => ?_⟩
        · simp only [look, qf]
          rcases List.mem_cons.1 hm with rfl | hm
          · simp at qf
          · simpa using ih1 c hc hm
        · simp only [look, qf] at hb
          exact ih2 b (by simpa using hb)
/-- the truths that were known ahead, behind a loop -/
def withLeaves (h : Heap) (st : St) : St := ⟨st.tmps, st.heap ++ lvs h (ids h), st.next, st.size⟩
def apartB (h : Heap) (H0 : List Nat) : Bool := (ids h).all fun i => match leafOf h i with | some _ => !H0.contains i | none => true
theorem withLeaves_says {ν : Env} {n : Nat} {w : World} {F1 : Nat → Prop} {ν' : Env} {h : Heap} {st' : St} {a' : Act} {w' : World} (hlt : ∀ i b, look h i = some b → i < n) (hle : ∀ i c, look h i = some (.leaf c) → (ν i).core.cond = c)
    (h' : Says ν n w F1 ν' st' a' w') (hn : n ≤ st'.next) (hap : ∀ i c, look h i = some (.leaf c) → look st'.heap i = none) : ∃ ν'', Says ν n w F1 ν'' (withLeaves h st') a' w' := by
  let g : Nat → Option Bool := fun i => match look st'.heap i with | some _ => none | none => leafOf h i
  let ν'' : Env := fun i => match g i with | some _ => { core := (ν' i).core, fp := fun _ => False } | none => ν' i
  have hc : ∀ i, (ν'' i).core = (ν' i).core := by
    intro i; simp only [ν'']; split <;> rfl
  have hsame : ∀ i b, look st'.heap i = some b → ν'' i = ν' i := by
    intro i b hb; simp only [ν'', g, hb]
  have hleaf : ∀ i c, look h i = some (.leaf c) → look st'.heap i = none → (ν'' i).fp = fun _ => False := by
    intro i c hc hn; simp only [ν'', g, hn, leafOf, hc]
  have hlook : ∀ i b, look (withLeaves h st').heap i = some b → look st'.heap i = some b ∨ (look st'.heap i = none ∧ look h i = some b ∧ ∃ c, b = .leaf c) := by
    intro i b hb
    simp only [withLeaves, look_append, over] at hb
    cases e : look st'.heap i with
    | some b' => rw [e] at hb; exact .inl hb
    | none => rw [e] at hb; exact .inr ⟨rfl, (look_lvs.2 b hb).1, (look_lvs.2 b hb).2⟩
  refine ⟨ν'', ⟨h'.1.size, h'.1.dom, ?_, h'.1.defers, ?_, h'.1.okT, ?_, h'.1.prog, ?_, ?_⟩, h'.2⟩
  · intro t ht
    rw [h'.1.tmp t ht]
    exact V.den_congr (p := fun _ => true) (fun i _ => (hc i).symm) _ (V.ok_mono (fun _ _ => rfl) _ (h'.1.okT t ht))
  · refine ⟨fun i b hb => ?_, fun i j bi bj ne hi hj ho k hk hk' => ?_⟩
    · rcases hlook i b hb with q | ⟨q1, q2, c, rfl⟩
      · rw [hsame i b q]
        exact Blk.den_congr (p := lt st'.next) (fun j _ => (hc j).symm) rfl rfl (h'.1.okH i b q).1 (h'.1.rel.den i b q)
      · refine ⟨?_, fun k hk => ?_⟩
        · rw [hc]
          have := h'.1.base i (hlt i _ q2)
          rw [this]; exact hle i c q2
        · rw [hleaf i c q2 q1] at hk; exact hk
    · rcases hlook i bi hi with q | ⟨q1, q2, c, rfl⟩
      · rcases hlook j bj hj with r | ⟨r1, r2, c, rfl⟩
        · rw [hsame i bi q] at hk; rw [hsame j bj r] at hk'
          exact h'.1.rel.dis i j bi bj ne q r ho k hk hk'
        · rw [hleaf j c r2 r1] at hk'; exact hk'
      · rw [hleaf i c q2 q1] at hk; exact hk
  · intro i b hb
    rcases hlook i b hb with q | ⟨q1, q2, c, rfl⟩
    · exact h'.1.okH i b q
    · exact ⟨rfl, lt_iff.2 (Nat.lt_of_lt_of_le (hlt i _ q2) hn)⟩
  · intro i b hb ho k hk
    rcases hlook i b hb with q | ⟨q1, q2, c, rfl⟩
    · rw [hsame i b q] at hk; exact h'.1.own i b q ho k hk
    · cases ho
  · intro i hi
    rw [hc]; exact h'.1.base i hi
/-- a handler: the state ahead is read, what comes of it told -/
def famL {α : Type} (T0 H0 : List Nat) (m sz : Nat) (dec : St → Option α) (res : α → T (Ex × St)) : LSpec := fun st =>
  (wkSt T0 H0 m st).bind fun s => if Nat.beq st.size sz && Nat.ble st.next m && apartB st.heap H0 then opt (dec s) fun d => (res d).bind fun r => .ret (r.1, withLeaves st.heap r.2) else .fail
/-- the blocks of a state are some of these -/
def blocksIn (H0 : List Nat) (st : St) : Prop := ∀ i b, look st.heap i = some b → i ∈ H0
theorem iter_blocks {C : Cfg} {Λ : Loops} {c : Code} {T0 H0 : List Nat} {m : Nat} {α : Type} {F : α → St} {step : α → T (Way α)} (hf : FamOk C Λ c T0 H0 m F step) :
    ∀ (n : Nat) (d : α) (r : Ex × St), (iter step n d).eval = some r → ∃ st, (wkSt T0 H0 m st).eval = some r.2
  | 0, d, r, h => by cases h
  | n + 1, d, r, h => by
    unfold iter at h
    obtain ⟨x, h1, h⟩ := T.eval_bind_some h
    cases x with
    | next d' => exact iter_blocks hf n d' r h
    | out e s =>
      obtain ⟨y, h2, h3⟩ := T.eval_bind_some (hf d _ h1)
      obtain ⟨s', h4, h5⟩ := T.eval_bind_some h3
      simp only [T.eval, Option.some.injEq, Way.at, Prod.mk.injEq] at h5
      obtain ⟨e1, rfl⟩ := h5
      cases e with
      | normal => cases h
      | exit i => simp only [T.eval, Option.some.injEq] at h; subst h; exact ⟨_, h4⟩
      | ret => simp only [T.eval, Option.some.injEq] at h; subst h; exact ⟨_, h4⟩
theorem wkHeap_mem {h : Heap} {m : Nat} : ∀ {K : List Nat} {h' : Heap}, wkHeap h m K = some h' → ∀ i b, look h' i = some b → i ∈ K
  | [], h', e, i, b, hb => by
    simp only [wkHeap, Option.some.injEq] at e; subst e; cases hb
  | k :: r, h', e, i, b, hb => by
    unfold wkHeap at e
    split at e
    · split at e
      · obtain ⟨h1, e1, rfl⟩ := Option.map_eq_some_iff.1 e
        simp only [look] at hb
        by_cases q : (k == i) = true
        · simp at q; subst q; exact List.mem_cons_self
        · simp only [q] at hb
          exact List.mem_cons_of_mem _ (wkHeap_mem e1 i b (by simpa using hb))
      · cases e
    · cases e
theorem wkSt_mem {T0 H0 : List Nat} {m : Nat} {st st' : St} (h : (wkSt T0 H0 m st).eval = some st') : ∀ i b, look st'.heap i = some b → i ∈ H0 := by
  obtain ⟨hp, e, h⟩ := opt_eval h
  simp only [T.eval, Option.some.injEq] at h
  subst h
  exact wkHeap_mem e
theorem apartB_of {h : Heap} {H0 : List Nat} (ha : apartB h H0 = true) {i : Nat} {c : Bool} (hc : look h i = some (.leaf c)) : i ∉ H0 := by
  have := List.all_eq_true.1 ha i (look_mem_ids hc)
  simp only [leafOf, hc] at this
  simpa using this
theorem famL_ok {C : Cfg} (hC : C.Ok) (hm : C.P.follows .mixedOrders = true) {Λ : Loops} {c : Code} (hl : LoopsOk C Λ c) {T0 H0 : List Nat} {m sz : Nat} {α : Type} {F : α → St} {step : α → T (Way α)} (hf : FamOk C Λ c T0 H0 m F step)
    {dec : St → Option α} {res : α → T (Ex × St)} (hd : ∀ s d, s.next = m → s.size = sz → dec s = some d → (∃ st, (wkSt T0 H0 m st).eval = some s) → s = F d) (hr : ∀ d r, (res d).eval = some r → ∃ n, (iter step n d).eval = some r) :
    LoopOk C c (famL T0 H0 m sz dec res) := by
  have open' : ∀ (st : St) (r : Ex × St), (famL T0 H0 m sz dec res st).eval = some r → ∃ s d r0 n, (wkSt T0 H0 m st).eval = some s ∧ st.size = sz ∧ st.next ≤ m ∧ apartB st.heap H0 = true ∧ s = F d ∧ (iter step n d).eval = some r0 ∧ r = (r0.1, withLeaves st.heap r0.2) := by
    intro st r h
    obtain ⟨s, h1, h⟩ := T.eval_bind_some h
    split at h
    · rename_i hc
      simp only [Bool.and_eq_true] at hc
      obtain ⟨d, h2, h⟩ := opt_eval h
      obtain ⟨r0, h3, h⟩ := T.eval_bind_some h
      simp only [T.eval, Option.some.injEq] at h
      obtain ⟨n, hn⟩ := hr d r0 h3
      have hsz : s.size = sz := by
        obtain ⟨hp, e, h1'⟩ := opt_eval h1
        simp only [T.eval, Option.some.injEq] at h1'
        subst h1'
        exact Nat.eq_of_beq_eq_true hc.1.1
      exact ⟨s, d, r0, n, h1, Nat.eq_of_beq_eq_true hc.1.1, Nat.le_of_ble_eq_true hc.1.2, hc.2, hd s d (wkSt_inv h1).2 hsz h2 ⟨_, h1⟩, hn, h.symm⟩
    · cases h
  refine ⟨fun st r h ν0 n0 w0 F0 ν a w Q hs hq => ?_, fun st r h hi => ?_⟩
  · obtain ⟨s, d, r0, n, h1, h2, h3, h4, rfl, h5, rfl⟩ := open' st r h
    have hsr := hs.rebase
    have hs1 := wkSt_says hsr h3 h1
    refine wp_loop_rounds n (fam_rounds hC hm hl hf h3 n d r0 ν a w h5 hs1 ?_)
    intro ν' a' w' hs'
    obtain ⟨q, hq1⟩ := iter_blocks hf n d r0 h5
    obtain ⟨ν'', hs''⟩ := withLeaves_says (h := st.heap) (fun i b hb => lt_iff.1 (hs.1.okH i b hb).2) (fun i c hc => (hs.1.rel.den i _ hc).1) hs' (by rw [(wkSt_inv hq1).2]; exact h3) (fun i c hc => by
      cases e : look r0.2.heap i with
      | none => rfl
      | some b => exact absurd (wkSt_mem hq1 i b e) (apartB_of h4 hc))
    refine hq ν'' a' w' (hs.back hs.2 hs'' ?_)
    rintro k ⟨i, b, hb, ho, hk⟩
    exact hs.1.own i b hb ho k hk
  · obtain ⟨s, d, r0, n, h1, h2, h3, h4, rfl, h5, rfl⟩ := open' st r h
    obtain ⟨q, hq1⟩ := iter_blocks hf n d r0 h5
    refine ⟨fun i b hb => ?_, fun i c hc => ?_⟩
    · simp only [withLeaves, look_append, over] at hb
      show i < r0.2.next
      cases e : look r0.2.heap i with
      | some b' => exact (wkSt_inv hq1).1 i b' e
      | none =>
        rw [e] at hb
        rw [(wkSt_inv hq1).2]
        exact Nat.lt_of_lt_of_le (hi i b (look_lvs.2 b hb).1) h3
    · simp only [withLeaves, look_append, over]
      cases e : look r0.2.heap i with
      | some b' => exact absurd (wkSt_mem hq1 i b' e) (apartB_of h4 hc)
      | none => exact look_lvs.1 c hc (look_mem_ids hc)
/-- handlers by the loops' first regions -/
def findL : List (Nat × LSpec) → Nat → Option LSpec
  | [], _ => none
  | (j, sp) :: r, i => if j == i then some sp else findL r i
def byReg (l : List (Nat × LSpec)) : Loops := fun c => match firstReg c with
  | some i => findL l i
  | none => none
/-- the loops of a code, outer ones -/
def loopsIn : Code → List Code
  | .seq a b => loopsIn a ++ loopsIn b
  | .cond _ a b => loopsIn a ++ loopsIn b
  | .block _ a => loopsIn a
  | .loop a => [a]
  | _ => []
theorem loopsOk_of {C : Cfg} {Λ : Loops} : ∀ c : Code, (∀ a ∈ loopsIn c, ∀ sp, Λ a = some sp → LoopOk C a sp) → LoopsOk C Λ c
  | .seq a b, h => ⟨loopsOk_of a fun x hx => h x (List.mem_append_left _ hx), loopsOk_of b fun x hx => h x (List.mem_append_right _ hx)⟩
  | .cond _ a b, h => ⟨loopsOk_of a fun x hx => h x (List.mem_append_left _ hx), loopsOk_of b fun x hx => h x (List.mem_append_right _ hx)⟩
  | .block _ a, h => loopsOk_of a h
  | .loop a, h => h a (List.mem_cons_self)
  | .skip, _ => trivial
  | .region _ _ _, _ => trivial
  | .exit _, _ => trivial
  | .ret, _ => trivial
  | .rangeFunc .., _ => trivial
  | .scope _, _ => trivial
  | .label _, _ => trivial
  | .goto _, _ => trivial
  | .refuse _, _ => trivial
end Go.Eng
