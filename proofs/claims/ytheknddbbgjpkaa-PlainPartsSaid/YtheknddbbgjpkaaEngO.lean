/- The machine: small things that every text of loops wants. No program is named here. -/
import Derived.Test.YtheknddbbgjpkaaEngN
namespace Go.Eng
open Go.RowKit
set_option linter.unusedVariables false
set_option linter.unusedSimpArgs false
def iv (n : Int) : V := .s (.int .i64 n)
def bv (b : Bool) : V := .s (.bool b)
theorem ite_some0 {α : Type} {c : Prop} [Decidable c] {x : Option α} {y : α} (h : (if c then x else none) = some y) : c ∧ x = some y := by
  split at h
  · rename_i hc; exact ⟨hc, h⟩
  · cases h
def idR {α : Type} (g : List α) (k : Nat) (i : Int) : Bool := decide (0 ≤ i) && (decide (i < (k : Int)) && decide (0 + i.toNat < g.length))
def ldR {α : Type} (g : List α) (i : Int) : Bool := decide (0 + i.toNat < g.length)
theorem idR_is {α : Type} {g : List α} {k : Nat} {i : Int} (h : k = g.length) (h0 : 0 ≤ i) (h1 : i < k) : idR g k i = true ∧ ldR g i = true := by
  unfold idR ldR
  rw [decide_eq_true h0, decide_eq_true h1, decide_eq_true (show 0 + i.toNat < g.length by omega)]
  exact ⟨rfl, rfl⟩
abbrev R4 := Int × Int × Int × Int
def g4 (l : List R4) (i : Int) : R4 := l.getD (0 + i.toNat) (0, 0, 0, 0)
def g2w (l : List (Int × Int)) (i : Int) : Int × Int := l.getD (0 + i.toNat) (0, 0)
theorem getD0 {α : Type} {l : List α} {d : α} {i : Int} {j : Nat} (h : i.toNat = j) (hj : j < l.length) : l.getD (0 + i.toNat) d = l[j] := by
  rw [List.getD_eq_getElem?_getD, h, Nat.zero_add, List.getElem?_eq_getElem hj]; rfl
theorem take_next {α : Type} {l : List α} {i : Int} (h : 0 ≤ i) (hj : i.toNat < l.length) : l.take (i + 1).toNat = l.take i.toNat ++ [l[i.toNat]] := by
  rw [show (i + 1).toNat = i.toNat + 1 by omega, List.take_add_one, List.getElem?_eq_getElem hj]; rfl
theorem allSay_append : ∀ {l r : List (Bool × Bool)}, allSay l → allSay r → allSay (l ++ r)
  | [], r, _, h => h
  | p :: l, r, h1, h2 => ⟨h1.1, allSay_append h1.2 h2⟩
def apC {α : Type} (j : Nat) (W : List α) (x : α) : Bool := true && (decide (j ≤ W.length) && decide (j + [x].length ≤ 1000000))
theorem apC_is {α : Type} {j : Nat} {W : List α} (x : α) (h : j = W.length) (hl : W.length ≤ 100000) : apC j W x = true := by
  unfold apC
  rw [decide_eq_true (show j ≤ W.length by omega), decide_eq_true (show j + [x].length ≤ 1000000 by simp; omega)]; rfl
theorem one_lp {P : Program} {c : Code} {n : Nat} {sp : LSpec} {C : Cfg} {f : Nat} (e : loopsIn (codeOf P f) = [c]) (hr : firstReg c = some n) (h : LoopOk C c sp) : ∀ a ∈ loopsIn (codeOf P f), ∀ s, byReg [(n, sp)] a = some s → LoopOk C a s := by
  rw [e]
  intro a ha
  rcases List.mem_cons.1 ha with q | ha
  · rw [q]; exact byReg_mem hr (by simp [findL]) h
  · cases ha
theorem two_lp {P : Program} {c c' : Code} {n n' : Nat} {sp sp' : LSpec} {C : Cfg} {f : Nat} (e : loopsIn (codeOf P f) = [c, c']) (hr : firstReg c = some n) (hr' : firstReg c' = some n') (hn : (n == n') = false) (h : LoopOk C c sp) (h' : LoopOk C c' sp') : ∀ a ∈ loopsIn (codeOf P f), ∀ s, byReg [(n, sp), (n', sp')] a = some s → LoopOk C a s := by
  rw [e]
  intro a ha
  rcases List.mem_cons.1 ha with q | ha
  · rw [q]; exact byReg_mem hr (by simp [findL]) h
  rcases List.mem_cons.1 ha with q | ha
  · rw [q]; exact byReg_mem hr' (by simp [findL, hn]) h'
  · cases ha
theorem three_lp {P : Program} {c c' c'' : Code} {n n' n'' : Nat} {sp sp' sp'' : LSpec} {C : Cfg} {f : Nat} (e : loopsIn (codeOf P f) = [c, c', c'']) (hr : firstReg c = some n) (hr' : firstReg c' = some n') (hr'' : firstReg c'' = some n'') (hn : ((n == n') = false ∧ (n == n'') = false) ∧ (n' == n'') = false) (h : LoopOk C c sp) (h' : LoopOk C c' sp') (h'' : LoopOk C c'' sp'') : ∀ a ∈ loopsIn (codeOf P f), ∀ s, byReg [(n, sp), (n', sp'), (n'', sp'')] a = some s → LoopOk C a s := by
  rw [e]
  intro a ha
  rcases List.mem_cons.1 ha with q | ha
  · rw [q]; exact byReg_mem hr (by simp [findL]) h
  rcases List.mem_cons.1 ha with q | ha
  · rw [q]; exact byReg_mem hr' (by simp [findL, hn.1.1]) h'
  rcases List.mem_cons.1 ha with q | ha
  · rw [q]; exact byReg_mem hr'' (by simp [findL, hn.1.2, hn.2]) h''
  · cases ha
/-! ### rows that a contract leaves behind a slice's end are forgotten -/
def shortB (k : Nat) : Blk → Blk
  | .lst true t ks l => .lst true t ks (l.take k)
  | b => b
def shortH (i k : Nat) : Heap → Heap
  | [] => []
  | (j, b) :: r => (j, if Nat.beq j i then shortB k b else b) :: shortH i k r
theorem shortB_owned {k : Nat} (b : Blk) : (shortB k b).owned = b.owned := by
  cases b with
  | lst own t ks l => cases own <;> rfl
  | _ => rfl
theorem shortB_ok {k : Nat} {p : Nat → Bool} (b : Blk) : (shortB k b).ok p = b.ok p := by
  cases b with
  | lst own t ks l => cases own <;> rfl
  | _ => rfl
theorem shortB_den {k : Nat} {ν : Env} {σ : Slot} {w : World} (b : Blk) (h : b.den ν σ w) : (shortB k b).den ν σ w := by
  cases b with
  | lst own t ks l =>
    cases own
    · exact h
    · obtain ⟨h1, h2⟩ := h
      refine ⟨?_, h2⟩
      have h3 := ownsRow_take h1 (k := min k l.length) (Nat.min_le_right _ _)
      rw [← rowsV_take, ← List.take_eq_take_min] at h3
      rw [List.length_take]
      exact h3
  | _ => exact h
theorem look_shortH {i k : Nat} : ∀ {h : Heap} {j : Nat}, look (shortH i k h) j = (look h j).map fun b => if Nat.beq j i then shortB k b else b
  | [], j => rfl
  | (m, b) :: r, j => by
    simp only [shortH, look]
    cases e : m == j with
    | true =>
      have : m = j := by simpa using e
      subst this
      rfl
    | false => exact look_shortH (h := r)
def Obj.short (sp : Obj) : Obj := fun args h => (sp args h).bind fun r => match r.1 with
  | .sub i _ 0 k => .ret (r.1, shortH i k r.2)
  | _ => .ret r
theorem inH_short {i k j : Nat} {h : Heap} : inH (shortH i k h) j = inH h j := by
  unfold inH
  rw [look_shortH]
  cases look h j <;> rfl
theorem outO_short {h h' : Heap} {v : V} {i k : Nat} : outO h v (shortH i k h') = outO h v h' := by
  have e : inO h (shortH i k h') = inO h h' := by
    funext j
    unfold inO
    rw [inH_short]
  unfold outO
  rw [e]
  clear e
  congr 1
  generalize inO h h' = p
  induction h' with
  | nil => rfl
  | cons q r ih =>
    obtain ⟨j, b⟩ := q
    simp only [shortH, List.all_cons, ih]
    congr 1
    cases Nat.beq j i
    · rfl
    · simp only [if_true, shortB_owned, shortB_ok]
theorem ObjOk.short {P : Program} {f : Nat} {sp : Obj} (h : ObjOk P f sp) : ObjOk P f (Obj.short sp) := by
  refine ⟨h.body, fun args h0 v h' ν w ha hh hr hv ho => ?_⟩
  unfold Obj.short at hv
  obtain ⟨r, hr1, hv⟩ := T.eval_bind_some hv
  have same : ∀ {r : V × Heap}, r = (v, h') → (sp args h0).eval = some r → Calls P f (denL ν args).toArray w fun e w' => ∃ ν' : Env, e = .returned (v.den ν') ∧ (∀ i, inH h0 i = true → (ν' i).core = (ν i).core) ∧ Rel ν' (look h') w' ∧
      (∀ i b, look h' i = some b → ∀ k, (ν' i).fp k → ownFp ν h0 k ∨ w.heap.size ≤ k) ∧ Prog w w' (ownFp ν h0) := by
    rintro r rfl e
    exact h.calls args h0 v h' ν w ha hh hr e ho
  split at hv
  · rename_i i sz k hrv
    simp only [T.eval, Option.some.injEq, Prod.mk.injEq] at hv
    obtain ⟨rfl, rfl⟩ := hv
    rw [outO_short] at ho
    refine (h.calls args h0 r.1 r.2 ν w ha hh hr hr1 ho).mono ?_
    rintro e w' ⟨ν', e1, e2, e3, e4, e5⟩
    refine ⟨ν', e1, e2, ⟨fun j b hb => ?_, fun j1 j2 b1 b2 hne h1 h2 hown => ?_⟩, fun j b hb => ?_, e5⟩
    · rw [look_shortH] at hb
      obtain ⟨b0, hb0, rfl⟩ := Option.map_eq_some_iff.1 hb
      have d := e3.den j b0 hb0
      split
      · exact shortB_den b0 d
      · exact d
    · rw [look_shortH] at h1 h2
      obtain ⟨c1, hc1, rfl⟩ := Option.map_eq_some_iff.1 h1
      obtain ⟨c2, hc2, rfl⟩ := Option.map_eq_some_iff.1 h2
      refine e3.dis j1 j2 c1 c2 hne hc1 hc2 ?_
      split at hown
      · rwa [shortB_owned] at hown
      · exact hown
    · rw [look_shortH] at hb
      obtain ⟨b0, hb0, _⟩ := Option.map_eq_some_iff.1 hb
      exact e4 j b0 hb0
  · exact same (by simpa [T.eval] using hv) hr1
/-! ### a loop in a loop: the inner contracts, never looked into -/
structure LoopsOkS (C : Cfg) (Λ : Loops) (c : Code) : Prop where
  ok : LoopsOk C Λ c
theorem lps_in {C : Cfg} {c d : Code} {n : Nat} {sp : LSpec} (e : loopsIn c = [d]) (hr : firstReg d = some n) (h : LoopOk C d sp) : LoopsOkS C (byReg [(n, sp)]) c := by
  refine ⟨loopsOk_of c ?_⟩
  rw [e]
  intro a ha
  rcases List.mem_cons.1 ha with q | ha
  · rw [q]; exact byReg_mem hr (by simp [findL]) h
  · cases ha
theorem allSay_of : ∀ {l : List (Bool × Bool)}, (l.all fun p => p.1 == p.2) = true → allSay l
  | [], _ => trivial
  | p :: l, h => by
    rw [List.all_cons, Bool.and_eq_true] at h
    exact ⟨by simpa using h.1, allSay_of h.2⟩
end Go.Eng
