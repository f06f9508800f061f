/- The machine: functions with objects. No program is named here. -/
import Derived.Test.YtheknddbbgjpkaaEngF
namespace Go.Eng
open Go.RowKit
set_option linter.unusedVariables false
set_option linter.unusedSimpArgs false
/-- a function's first state: its arguments and what they lead to -/
def entryO (args : List V) (h : Heap) (k : Nat) : St := ⟨slots 0 args ++ rests args.length k, h, h.length, args.length + k⟩
def ownKeys (h : Heap) : List Nat := keysN (h.filter fun p => p.2.owned)
/-- what it leaves -/
def retO (h : Heap) (L : Look) (l : List V) : V × Heap := (detO L (pack l), (grab L 200 (ownKeys h ++ idsV (detO L (pack l))) []).filter fun p => p.2.owned)
def execFO (C : Cfg) (Λ : Loops) (f : Nat) (args : List V) (h : Heap) : T (V × Heap) :=
  match C.P.funcs[f]? with
  | none => .fail
  | some fn => match fn.body with
    | none => .fail
    | some c => (exec C Λ c (entryO args h (fn.ntmps - args.length))).bind fun x =>
      match x.1 with
      | .exit _ => .fail
      | _ => (resList C.P x.2 fn.results.toList).bind fun l => if (l.all fun v => !v.isJunk) = true then .ret (retO h (look x.2.heap) l) else .fail
/-- **A function with objects, its impossible ways left out.** -/
def execO (C : Cfg) (Λ : Loops) (f : Nat) : Obj := fun args h => (execFO C Λ f args h).simp []
theorem grab_mem {L : Look} : ∀ (n : Nat) (q : List Nat) (acc : Heap), (∀ i b', (i, b') ∈ acc → ∃ b, L i = some b ∧ b' = b.det L) → ∀ i b', (i, b') ∈ grab L n q acc → ∃ b, L i = some b ∧ b' = b.det L
  | 0, _, acc, h => h
  | _ + 1, [], acc, h => h
  | n + 1, i :: q, acc, h => by
    unfold grab
    split
    · exact grab_mem n q acc h
    · split
      · rename_i b hb
        refine grab_mem n _ _ fun j b' hj => ?_
        rcases List.mem_append.1 hj with hj | hj
        · exact h j b' hj
        · simp only [List.mem_singleton, Prod.mk.injEq] at hj
          obtain ⟨rfl, rfl⟩ := hj
          exact ⟨b, hb, rfl⟩
      · exact grab_mem n q acc h
theorem entryO_get (args : List V) (h : Heap) (k t : Nat) : getT (entryO args h k).tmps t = if t < args.length then (args[t]?).getD .junk else if t < args.length + k then .raw undef else .junk := by
  simp only [entryO]
  rw [getT_append, slots_any, slots_get _ _ _ (Nat.zero_le _), rests_get]
  by_cases h : t < args.length
  · rw [if_pos (by simp; omega), if_pos h]; rfl
  · rw [if_neg (by simp; omega), if_neg h]
    by_cases h2 : t < args.length + k
    · rw [if_pos (by omega), if_pos h2]
    · rw [if_neg (by omega), if_neg h2]
theorem entryO_says {args : List V} {h : Heap} {ν : Env} {w : World} {k : Nat} (ha : okL (inH h) args = true) (hh : ∀ i b, look h i = some b → b.ok (inH h) = true ∧ i < h.length) (hr : Rel ν (look h) w) :
    Says ν h.length w (ownFp ν h) ν (entryO args h k) { tmps := (denL ν args).toArray ++ Array.replicate k undef, defers := [] } w := by
  have hin : ∀ i, inH h i = true → lt h.length i = true := by
    intro i hi
    obtain ⟨b, hb⟩ := Option.isSome_iff_exists.1 hi
    rw [lt_iff]; exact (hh i b hb).2
  refine ⟨⟨?_, ?_, ?_, rfl, hr, ?_, ?_, Prog.refl _ _, ?_, fun _ _ => rfl⟩, Nat.le_refl _⟩
  · simp [denL_map, entryO]
  · intro t ht
    rw [entryO_get] at ht
    show t < args.length + k
    by_cases h : t < args.length
    · omega
    · rw [if_neg h] at ht
      by_cases h2 : t < args.length + k
      · exact h2
      · rw [if_neg h2] at ht; simp [V.isJunk] at ht
  · intro t ht
    rw [entryO_get] at ht ⊢
    by_cases h : t < args.length
    · rw [if_pos h]
      simp [Array.getD_eq_getD_getElem?, Array.getElem?_append, denL_map, h]
    · rw [if_neg h] at ht ⊢
      by_cases h2 : t < args.length + k
      · rw [if_pos h2]
        simp only [V.den]
        simp [Array.getD_eq_getD_getElem?, Array.getElem?_append, denL_map, h]
        rw [Array.getElem?_replicate, if_pos (by omega)]
        rfl
      · rw [if_neg h2] at ht; simp [V.isJunk] at ht
  · intro t ht
    rw [entryO_get] at ht ⊢
    by_cases h : t < args.length
    · rw [if_pos h]
      refine V.ok_mono hin _ ((okL_iff _ _).1 ha _ ?_)
      simp [h]
    · rw [if_neg h] at ht ⊢
      by_cases h2 : t < args.length + k
      · rw [if_pos h2]; rfl
      · rw [if_neg h2] at ht; simp [V.isJunk] at ht
  · intro i b hb
    have h1 := hh i b hb
    refine ⟨?_, by rw [lt_iff]; exact h1.2⟩
    have := Blk.ren_ok (σ := fun i => i) (p := inH h) (q := lt h.length) hin b h1.1
    exact Blk.ok_mono hin h1.1
  · exact fun i b hb ho k hk => .inl ⟨i, b, hb, ho, hk⟩
theorem execFO_ok {C : Cfg} (hC : C.Ok) (hm : C.P.follows .mixedOrders = true) {Λ : Loops} {f : Nat} {fn : Func} {c : Code} (hf : C.P.funcs[f]? = some fn) (hb : fn.body = some c) (hnm : (fn.name == "runtime.NumGoroutine") = false)
    (hl : LoopsOk C Λ c) : ObjOk C.P f (execFO C Λ f) := by
  refine ⟨⟨fn, hf, by simp [hb], hnm⟩, fun args h v h' ν w hoa hoh hrel hv hout => ?_⟩
  unfold execFO at hv
  simp only [hf, hb] at hv
  obtain ⟨x, h1, hv⟩ := T.eval_bind_some hv
  refine calls_of_wp hf hb ?_
  have hsz : (denL ν args).toArray.size = args.length := by simp [denL_map]
  rw [hsz]
  have hsay := entryO_says (k := fn.ntmps - args.length) hoa hoh hrel
  refine exec_ok hC hm c _ x _ _ _ w hl h1 hsay ?_
  intro ν' a' w' hs'
  have fin : ∀ {e : Exit}, (e = .normal ∨ e = .ret) → (resList C.P x.2 fn.results.toList).eval.bind (fun l => (if (l.all fun v => !v.isJunk) = true then T.ret (retO h (look x.2.heap) l) else .fail : T (V × Heap)).eval) = some (v, h') →
      bodyPost C.P fn (fun e w' => ∃ ν' : Env, e = .returned (v.den ν') ∧ (∀ i, inH h i = true → (ν' i).core = (ν i).core) ∧ Rel ν' (look h') w' ∧ (∀ i b, look h' i = some b → ∀ k, (ν' i).fp k → ownFp ν h k ∨ w.heap.size ≤ k) ∧ Prog w w' (ownFp ν h)) e a' w' := by
    intro e he hq
    cases hrs : (resList C.P x.2 fn.results.toList).eval with
    | none => rw [hrs] at hq; cases hq
    | some l =>
      rw [hrs] at hq
      simp only [Option.bind_some] at hq
      split at hq
      · rename_i hj
        simp only [T.eval, Option.some.injEq] at hq
        have hv1 : detO (look x.2.heap) (pack l) = v := congrArg Prod.fst hq
        have hv2 : (grab (look x.2.heap) 200 (ownKeys h ++ idsV (detO (look x.2.heap) (pack l))) []).filter (fun p => p.2.owned) = h' := congrArg Prod.snd hq
        have hjl : ∀ y ∈ l, y.isJunk = false := fun y hy => by
          have := List.all_eq_true.1 hj y hy
          simpa using this
        have hrun := run_results (P := C.P) hs'.1.tmp hs'.1.rel fn.results.toList l hrs hjl
        have hres : (results fn a'.tmps).run C.P w' = .ok ((pack l).den ν') w' := by
          rw [results_eq]
          simp only [Array.mapM_eq_mapM_toList, Sem.run_bind, Sem.run_map, hrun]
          simp only [Result.andThen_ok, Sem.run_pure]
          exact congrArg (fun x => Result.ok x w') (pack_den ν' _)
        unfold outO at hout
        simp only [Bool.and_eq_true] at hout
        obtain ⟨hout1, hout2⟩ := hout
        have hvd : (pack l).den ν' = v.den ν' := by
          rw [← hv1]
          exact (detO_den (p := inO h h') hs'.1.rel (pack l) (by rw [hv1]; exact hout1)).symm
        have hlk : ∀ i b, look h' i = some b → ∃ b0, look x.2.heap i = some b0 ∧ b = b0.det (look x.2.heap) ∧ b.owned = true ∧ b.ok (inO h h') = true := by
          intro i b e
          have hm := mem_of_look e
          have ho := List.all_eq_true.1 hout2 _ hm
          simp only [Bool.and_eq_true] at ho
          rw [← hv2] at hm
          obtain ⟨hm1, _⟩ := List.mem_filter.1 hm
          obtain ⟨b0, q1, q2⟩ := grab_mem 200 _ [] (fun i b' h => by cases h) i b hm1
          exact ⟨b0, q1, q2, ho.1.1, ho.1.2⟩
        have hrel2 : Rel ν' (look h') w' := by
          refine ⟨fun i b e => ?_, fun i j bi bj ne ei ej ho => ?_⟩
          · obtain ⟨b0, q1, rfl, q3, q4⟩ := hlk i b e
            exact Blk.det_den hs'.1.rel b0 q4 (hs'.1.rel.den i b0 q1)
          · obtain ⟨b0, q1, rfl, q3, _⟩ := hlk i bi ei
            obtain ⟨b1, r1, rfl, _, _⟩ := hlk j bj ej
            rw [Blk.det_owned] at ho
            exact hs'.1.rel.dis i j b0 b1 ne q1 r1 ho
        have hgoal : ∃ ν'' : Env, (Ending.returned ((pack l).den ν') : Ending) = .returned (v.den ν'') ∧ (∀ i, inH h i = true → (ν'' i).core = (ν i).core) ∧ Rel ν'' (look h') w' ∧ (∀ i b, look h' i = some b → ∀ k, (ν'' i).fp k → ownFp ν h k ∨ w.heap.size ≤ k) ∧ Prog w w' (ownFp ν h) := by
          refine ⟨ν', by rw [hvd], fun i hi => hs'.1.base i ?_, hrel2, fun i b e k hk => ?_, hs'.1.prog⟩
          · obtain ⟨b, hb⟩ := Option.isSome_iff_exists.1 hi
            exact (hoh i b hb).2
          · obtain ⟨b0, q1, rfl, q3, _⟩ := hlk i b e
            rw [Blk.det_owned] at q3
            exact hs'.1.own i b0 q1 q3 k hk
        rcases he with rfl | rfl
        · exact ⟨hs'.1.defers, _, hres, hgoal⟩
        · exact ⟨hs'.1.defers, _, hres, hgoal⟩
      · cases hq
  obtain ⟨e, st⟩ := x
  cases e with
  | normal => rw [T.eval_bind] at hv; exact fin (.inl rfl) hv
  | exit i => cases hv
  | ret => rw [T.eval_bind] at hv; exact fin (.inr rfl) hv
theorem execO_eval {C : Cfg} {Λ : Loops} {f : Nat} {fn : Func} {c : Code} (hf : C.P.funcs[f]? = some fn) (hb : fn.body = some c) (hl : LoopsOk C Λ c) {args : List V} {h0 : Heap} (hh : ∀ i b, look h0 i = some b → i < h0.length) {r : V × Heap} (h : (execO C Λ f args h0).eval = some r) : (execFO C Λ f args h0).eval = some r := by
  unfold execO at h
  rw [T.eval_simp] at h
  cases hw : (execFO C Λ f args h0).walk [] with
  | none => rw [hw] at h; cases h
  | some r =>
    rw [hw] at h
    simp only [Option.map_some, Option.some.injEq] at h
    subst h
    unfold execFO at hw ⊢
    simp only [hf, hb] at hw ⊢
    obtain ⟨x, K', h1, hw⟩ := T.walk_bind_some hw
    have hinv : Inv (entryO args h0 (fn.ntmps - args.length)) := fun i b hb => hh i b hb
    obtain ⟨h2, h3, h4⟩ := exec_walk c _ [] (x, K') hl hinv (fun i b hb => by cases hb) h1
    rw [T.eval_bind, h2]
    obtain ⟨e, st⟩ := x
    have fin : ∀ {r : (V × Heap) × List (Nat × Bool)}, ((resList C.P st fn.results.toList).bind fun l => if (l.all fun v => !v.isJunk) = true then T.ret (retO h0 (look st.heap) l) else .fail : T (V × Heap)).walk K' = some r →
        ((resList C.P st fn.results.toList).bind fun l => if (l.all fun v => !v.isJunk) = true then T.ret (retO h0 (look st.heap) l) else .fail : T (V × Heap)).eval = some r.1 := fun h =>
      (T.walk_from (L := look st.heap) _ _ _ (T.asks_bind asks_resList fun l => (by split <;> exact trivial)) h4 h).1
    cases e with
    | normal => exact fin hw
    | exit i => cases hw
    | ret => exact fin hw
theorem execO_ok {C : Cfg} (hC : C.Ok) (hm : C.P.follows .mixedOrders = true) {Λ : Loops} {f : Nat} {fn : Func} {c : Code} (hf : C.P.funcs[f]? = some fn) (hb : fn.body = some c) (hnm : (fn.name == "runtime.NumGoroutine") = false)
    (hl : LoopsOk C Λ c) : ObjOk C.P f (execO C Λ f) := by
  have h := execFO_ok hC hm hf hb hnm hl
  exact ⟨h.body, fun args h0 v h' ν w h1 h2 h3 hv h4 => h.calls args h0 v h' ν w h1 h2 h3 (execO_eval hf hb hl (fun i b q => (h2 i b q).2) hv) h4⟩
theorem execO_plain {C : Cfg} (hC : C.Ok) (hm : C.P.follows .mixedOrders = true) {f : Nat} {fn : Func} (hf : C.P.funcs[f]? = some fn) (hb : fn.body.isSome = true) (hnm : (fn.name == "runtime.NumGoroutine") = false) :
    ObjOk C.P f (execO C noLoops f) := by
  obtain ⟨c, hc⟩ := Option.isSome_iff_exists.1 hb
  exact execO_ok hC hm hf hc hnm (noLoops_ok c)
theorem execO_rounds {C : Cfg} (hC : C.Ok) (hm : C.P.follows .mixedOrders = true) (n d : Nat) {f : Nat} {fn : Func} (hf : C.P.funcs[f]? = some fn) (hb : fn.body.isSome = true) (hnm : (fn.name == "runtime.NumGoroutine") = false) :
    ObjOk C.P f (execO C (rounds C n d) f) := by
  obtain ⟨c, hc⟩ := Option.isSome_iff_exists.1 hb
  exact execO_ok hC hm hf hc hnm (rounds_ok hC hm n d c)
theorem execO_loops {C : Cfg} (hC : C.Ok) (hm : C.P.follows .mixedOrders = true) {Λ : Loops} {f : Nat} {fn : Func} (hf : C.P.funcs[f]? = some fn) (hb : fn.body.isSome = true) (hnm : (fn.name == "runtime.NumGoroutine") = false)
    (hl : ∀ a ∈ loopsIn (codeOf C.P f), ∀ sp, Λ a = some sp → LoopOk C a sp) : ObjOk C.P f (execO C Λ f) := by
  obtain ⟨c, hc⟩ := Option.isSome_iff_exists.1 hb
  have e : codeOf C.P f = c := by simp [codeOf, hf, hc]
  rw [e] at hl
  exact execO_ok hC hm hf hc hnm (loopsOk_of c hl)
/-- what comes to the same is a contract as well -/
theorem ObjOk.of_eval {P : Program} {f : Nat} {sp sp' : Obj} (h : ObjOk P f sp) (he : ∀ args h v, (sp' args h).eval = some v → (sp args h).eval = some v) : ObjOk P f sp' :=
  ⟨h.body, fun args h0 v h' ν w h1 h2 h3 hv h4 => h.calls args h0 v h' ν w h1 h2 h3 (he _ _ _ hv) h4⟩
/-- a handler for either kind of state -/
theorem LoopOk.cases {C : Cfg} {body : Code} {sp1 sp2 : LSpec} (g : St → Bool) (h1 : LoopOk C body sp1) (h2 : LoopOk C body sp2) : LoopOk C body (fun st => bif g st then sp1 st else sp2 st) := by
  refine ⟨fun st r h => ?_, fun st r h => ?_⟩
  · cases q : g st
    · rw [q] at h; exact h2.run st r h
    · rw [q] at h; exact h1.run st r h
  · cases q : g st
    · rw [q] at h; exact h2.keep st r h
    · rw [q] at h; exact h1.keep st r h
theorem unroll_loop {C : Cfg} (hC : C.Ok) (hm : C.P.follows .mixedOrders = true) (n : Nat) (body : Code) : LoopOk C body (unroll C noLoops body n) := unroll_ok hC hm (noLoops_ok body) n
/-! ### one way through a tree -/
/-- the way that these choices tell: what is asked on it, and where it leads -/
def T.path {α : Type} : List Bool → T α → Option (List (Bool × Bool) × α)
  | [], .ret a => some ([], a)
  | b :: r, .ite _ c x y => match (match b with | true => T.path r x | false => T.path r y) with
    | some (l, a) => some ((c, b) :: l, a)
    | none => none
  | _, _ => none
def allSay : List (Bool × Bool) → Prop
  | [] => True
  | p :: l => p.1 = p.2 ∧ allSay l
theorem T.path_eval {α : Type} : ∀ {ch : List Bool} {t : T α} {cs : List (Bool × Bool)} {v : α}, T.path ch t = some (cs, v) → allSay cs → t.eval = some v
  | [], .ret a, cs, v, h, _ => by simp only [T.path, Option.some.injEq, Prod.mk.injEq] at h; rw [← h.2]; rfl
  | [], .fail, cs, v, h, _ => by simp [T.path] at h
  | [], .ite _ _ _ _, cs, v, h, _ => by simp [T.path] at h
  | _ :: _, .ret _, cs, v, h, _ => by simp [T.path] at h
  | _ :: _, .fail, cs, v, h, _ => by simp [T.path] at h
  | true :: r, .ite _ c x y, cs, v, h, hs => by
    simp only [T.path] at h
    cases e : T.path r x with
    | none => rw [e] at h; cases h
    | some q =>
      obtain ⟨l, a⟩ := q
      rw [e] at h
      simp only [Option.some.injEq, Prod.mk.injEq] at h
      obtain ⟨rfl, rfl⟩ := h
      have h1 : c = true := hs.1
      rw [h1]; show x.eval = _; exact T.path_eval e hs.2
  | false :: r, .ite _ c x y, cs, v, h, hs => by
    simp only [T.path] at h
    cases e : T.path r y with
    | none => rw [e] at h; cases h
    | some q =>
      obtain ⟨l, a⟩ := q
      rw [e] at h
      simp only [Option.some.injEq, Prod.mk.injEq] at h
      obtain ⟨rfl, rfl⟩ := h
      have h1 : c = false := hs.1
      rw [h1]; show y.eval = _; exact T.path_eval e hs.2
/-- the choices of a tree whose questions are closed -/
def T.choices {α : Type} : T α → List Bool
  | .ite _ c x y => bif c then true :: x.choices else false :: y.choices
  | _ => []
end Go.Eng
