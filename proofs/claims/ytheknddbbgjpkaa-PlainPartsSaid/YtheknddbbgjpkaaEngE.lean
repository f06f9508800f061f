/- The machine, fifth part: families of states by their values; a function with such loops. No program is named here. -/
import Derived.Test.YtheknddbbgjpkaaEngD
namespace Go.Eng
open Go.RowKit
set_option linter.unusedVariables false
set_option linter.unusedSimpArgs false

def zipK {α : Type} : List Nat → List α → List (Nat × α)
  | k :: ks, v :: vs => (k, v) :: zipK ks vs
  | _, _ => []
def mkSt (T0 H0 : List Nat) (m sz : Nat) (vs : List V) (bs : List Blk) : St := ⟨zipK T0 vs, zipK H0 bs, m, sz⟩
theorem zipK_self {α : Type} : ∀ {l : List (Nat × α)} {K : List Nat}, l.map (·.1) = K → l = zipK K (l.map (·.2))
  | [], K, h => by subst h; rfl
  | (k, v) :: r, K, h => by
    subst h
    simp only [List.map_cons, zipK]
    rw [← zipK_self (l := r) rfl]
theorem wkTmps_keys {L : Look} {m : Nat} {l : Tm} : ∀ K : List Nat, (wkTmps L m l K).map (·.1) = K
  | [] => rfl
  | k :: r => by simp only [wkTmps, List.map_cons, wkTmps_keys r]
theorem wkHeap_keys {h : Heap} {m : Nat} : ∀ {K : List Nat} {h' : Heap}, wkHeap h m K = some h' → h'.map (·.1) = K
  | [], h', e => by simp only [wkHeap, Option.some.injEq] at e; subst e; rfl
  | k :: r, h', e => by
    unfold wkHeap at e
    split at e
    · split at e
      · obtain ⟨h1, e1, rfl⟩ := Option.map_eq_some_iff.1 e
        simp only [List.map_cons, wkHeap_keys e1]
      · cases e
    · cases e
theorem wkSt_mk {T0 H0 : List Nat} {m : Nat} {st s : St} (h : (wkSt T0 H0 m st).eval = some s) : s = mkSt T0 H0 m s.size (s.tmps.map (·.2)) (s.heap.map (·.2)) := by
  obtain ⟨hp, e, h⟩ := opt_eval h
  simp only [T.eval, Option.some.injEq] at h
  subst h
  unfold mkSt
  congr 1
  · exact zipK_self (wkTmps_keys _)
  · exact zipK_self (wkHeap_keys e)
/-- a handler by values -/
def famV {α : Type} (T0 H0 : List Nat) (m sz : Nat) (dec : List V → List Blk → Option α) (res : α → T (Ex × St)) : LSpec :=
  famL T0 H0 m sz (fun s => dec (s.tmps.map (·.2)) (s.heap.map (·.2))) res
theorem famV_ok {C : Cfg} (hC : C.Ok) (hm : C.P.follows .mixedOrders = true) {Λ : Loops} {c : Code} (hl : LoopsOk C Λ c) {T0 H0 : List Nat} {m sz : Nat} {α : Type} {vs : α → List V} {bs : α → List Blk} {step : α → T (Way α)}
    (hf : FamOk C Λ c T0 H0 m (fun d => mkSt T0 H0 m sz (vs d) (bs d)) step) {dec : List V → List Blk → Option α} {res : α → T (Ex × St)}
    (hd : ∀ l b d, dec l b = some d → l = vs d ∧ b = bs d) (hr : ∀ d r, (res d).eval = some r → ∃ n, (iter step n d).eval = some r) : LoopOk C c (famV T0 H0 m sz dec res) :=
  famL_ok hC hm hl hf (fun s d hn hs h ⟨st, hw⟩ => by
    rw [wkSt_mk hw, hs]
    obtain ⟨e1, e2⟩ := hd _ _ _ h
    rw [e1, e2]) hr
/-- the code of a function -/
noncomputable def codeOf (P : Program) (f : Nat) : Code := ((P.funcs[f]?).bind (·.body)).getD .skip
theorem execS_loops {C : Cfg} (hC : C.Ok) (hm : C.P.follows .mixedOrders = true) {Λ : Loops} {f : Nat} {fn : Func} (hf : C.P.funcs[f]? = some fn) (hb : fn.body.isSome = true) (hnm : (fn.name == "runtime.NumGoroutine") = false)
    (hl : ∀ a ∈ loopsIn (codeOf C.P f), ∀ sp, Λ a = some sp → LoopOk C a sp) : SpecOk C.P f (execS C Λ f) := by
  obtain ⟨c, hc⟩ := Option.isSome_iff_exists.1 hb
  have e : codeOf C.P f = c := by simp [codeOf, hf, hc]
  rw [e] at hl
  exact execS_ok hC hm hf hc hnm (loopsOk_of c hl)
/-- the n-th loop of a function -/
noncomputable def loopAt (P : Program) (f n : Nat) : Code := (loopsIn (codeOf P f)).getD n .skip
theorem byReg_mem {C : Cfg} {l : List (Nat × LSpec)} {a : Code} {i : Nat} (hi : firstReg a = some i) {sp : LSpec} (hsp : findL l i = some sp) (h : LoopOk C a sp) : ∀ sp', byReg l a = some sp' → LoopOk C a sp' := by
  intro sp' h'
  unfold byReg at h'
  rw [hi, ] at h'
  simp only at h'
  rw [hsp] at h'
  cases h'; exact h
end Go.Eng
