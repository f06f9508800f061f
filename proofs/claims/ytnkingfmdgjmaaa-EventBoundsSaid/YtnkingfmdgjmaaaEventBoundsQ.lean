import Derived.Laws.Bits64
import Derived.Test.YtnkingfmdgjmaaaGX
/- Layer 23: EventBounds: each kind near its bounds. -/
namespace Go.Proofs.Ytnkingfmdgjmaaa.Evt
open Go.Eng Go.RowKit
set_option linter.unusedVariables false
set_option linter.unusedSimpArgs false
set_option maxRecDepth 100000
/-- what is left of a tree behind some choices -/
def subT {α : Type} : List Bool → T α → Option (List (Bool × Bool) × T α)
  | [], t => some ([], t)
  | b :: w, .ite _ c x y => (subT w (bif b then x else y)).map fun r => ((c, b) :: r.1, r.2)
  | _ :: _, _ => none
theorem subT_eval {α : Type} : ∀ {w : List Bool} {t r : T α} {cs : List (Bool × Bool)}, subT w t = some (cs, r) → allSay cs → t.eval = r.eval
  | [], t, r, cs, h, _ => by cases h; rfl
  | b :: w, .ite i c x y, r, cs, h, hs => by
    unfold subT at h
    obtain ⟨q, hq, e⟩ := Option.map_eq_some_iff.1 h
    obtain ⟨q1, q2⟩ := q
    obtain ⟨rfl, rfl⟩ := Prod.mk.inj e
    have ih := subT_eval hq hs.2
    have hc : c = b := hs.1
    subst hc
    cases c <;> exact ih
  | _ :: _, .ret _, _, _, h, _ => by cases h
  | _ :: _, .fail, _, _, h, _ => by cases h
def yesR : Eng.Spec
  | [] => .ret .tt
  | _ => .fail
theorem told23_ok : SpecOk Try.prog 12 yesR := tldX_ok.of_den fun args v hfl h => by
  clear hfl
  unfold yesR at h
  split at h
  · obtain rfl := Option.some.inj h
    exact ⟨_, tld_run, ⟨rfl, rfl⟩, rfl⟩
  · cases h
noncomputable def EB : Cfg := ⟨Try.prog, lookG [(13, .val mayX), (11, .obj (Eng.Obj.plain putR)), (12, .val yesR)], [], 11⟩
theorem EB_ok : EB.Ok := Cfg.ok ⟨mayX_ok, putR_ok.plain, told23_ok, trivial⟩ trivial
noncomputable def bndX : Eng.Spec := execS EB noLoops 4
theorem bndX_ok : SpecOk Try.prog 4 bndX := execS_plain EB_ok mixed Try.func4 (by kernel_rfl) (by kernel_rfl)
def km (a : Int) : Int := Int.tmod (IntKind.wrap .u64 a) 8
def kn (b : Int) : Int := Int.tmod (IntKind.wrap .u64 b) 11
def cw (i : Nat) : List Bool := List.replicate i false ++ [true]
def cs (m : Int) (i : Nat) : List (Bool × Bool) := (List.range i).map (fun (q : Nat) => (decide (m = (q : Int)), false)) ++ [(decide (m = (i : Int)), true)]
def yesV : Option V → Bool
  | some .tt => true
  | some (.s (.bool b)) => b
  | _ => false
def runB (a b : Int) (t : Bool) (i j : Nat) : Prop := (subT (false :: (cw i ++ (false :: cw j))) (T.anon (bndX [iv a, iv b, bv t]))).map (fun x => (x.1, yesV x.2.eval)) = some ((false, false) :: (cs (km a) i ++ ((false, false) :: cs (kn b) j)), true)
def allB (a b : Int) (t : Bool) (i : Nat) : Prop := runB a b t i 0 ∧ runB a b t i 1 ∧ runB a b t i 2 ∧ runB a b t i 3 ∧ runB a b t i 4 ∧ runB a b t i 5 ∧ runB a b t i 6 ∧ runB a b t i 7 ∧ runB a b t i 8 ∧ runB a b t i 9 ∧ runB a b t i 10
theorem bn_t0 (a b : Int) : allB a b true 0 := ⟨by unfold runB; kernel_rfl, by unfold runB; kernel_rfl, by unfold runB; kernel_rfl, by unfold runB; kernel_rfl, by unfold runB; kernel_rfl, by unfold runB; kernel_rfl, by unfold runB; kernel_rfl, by unfold runB; kernel_rfl, by unfold runB; kernel_rfl, by unfold runB; kernel_rfl, by unfold runB; kernel_rfl⟩
theorem bn_t1 (a b : Int) : allB a b true 1 := ⟨by unfold runB; kernel_rfl, by unfold runB; kernel_rfl, by unfold runB; kernel_rfl, by unfold runB; kernel_rfl, by unfold runB; kernel_rfl, by unfold runB; kernel_rfl, by unfold runB; kernel_rfl, by unfold runB; kernel_rfl, by unfold runB; kernel_rfl, by unfold runB; kernel_rfl, by unfold runB; kernel_rfl⟩
theorem bn_t2 (a b : Int) : allB a b true 2 := ⟨by unfold runB; kernel_rfl, by unfold runB; kernel_rfl, by unfold runB; kernel_rfl, by unfold runB; kernel_rfl, by unfold runB; kernel_rfl, by unfold runB; kernel_rfl, by unfold runB; kernel_rfl, by unfold runB; kernel_rfl, by unfold runB; kernel_rfl, by unfold runB; kernel_rfl, by unfold runB; kernel_rfl⟩
theorem bn_t3 (a b : Int) : allB a b true 3 := ⟨by unfold runB; kernel_rfl, by unfold runB; kernel_rfl, by unfold runB; kernel_rfl, by unfold runB; kernel_rfl, by unfold runB; kernel_rfl, by unfold runB; kernel_rfl, by unfold runB; kernel_rfl, by unfold runB; kernel_rfl, by unfold runB; kernel_rfl, by unfold runB; kernel_rfl, by unfold runB; kernel_rfl⟩
theorem bn_t4 (a b : Int) : allB a b true 4 := ⟨by unfold runB; kernel_rfl, by unfold runB; kernel_rfl, by unfold runB; kernel_rfl, by unfold runB; kernel_rfl, by unfold runB; kernel_rfl, by unfold runB; kernel_rfl, by unfold runB; kernel_rfl, by unfold runB; kernel_rfl, by unfold runB; kernel_rfl, by unfold runB; kernel_rfl, by unfold runB; kernel_rfl⟩
theorem bn_t5 (a b : Int) : allB a b true 5 := ⟨by unfold runB; kernel_rfl, by unfold runB; kernel_rfl, by unfold runB; kernel_rfl, by unfold runB; kernel_rfl, by unfold runB; kernel_rfl, by unfold runB; kernel_rfl, by unfold runB; kernel_rfl, by unfold runB; kernel_rfl, by unfold runB; kernel_rfl, by unfold runB; kernel_rfl, by unfold runB; kernel_rfl⟩
theorem bn_t6 (a b : Int) : allB a b true 6 := ⟨by unfold runB; kernel_rfl, by unfold runB; kernel_rfl, by unfold runB; kernel_rfl, by unfold runB; kernel_rfl, by unfold runB; kernel_rfl, by unfold runB; kernel_rfl, by unfold runB; kernel_rfl, by unfold runB; kernel_rfl, by unfold runB; kernel_rfl, by unfold runB; kernel_rfl, by unfold runB; kernel_rfl⟩
theorem bn_t7 (a b : Int) : allB a b true 7 := ⟨by unfold runB; kernel_rfl, by unfold runB; kernel_rfl, by unfold runB; kernel_rfl, by unfold runB; kernel_rfl, by unfold runB; kernel_rfl, by unfold runB; kernel_rfl, by unfold runB; kernel_rfl, by unfold runB; kernel_rfl, by unfold runB; kernel_rfl, by unfold runB; kernel_rfl, by unfold runB; kernel_rfl⟩
theorem bn_f0 (a b : Int) : allB a b false 0 := ⟨by unfold runB; kernel_rfl, by unfold runB; kernel_rfl, by unfold runB; kernel_rfl, by unfold runB; kernel_rfl, by unfold runB; kernel_rfl, by unfold runB; kernel_rfl, by unfold runB; kernel_rfl, by unfold runB; kernel_rfl, by unfold runB; kernel_rfl, by unfold runB; kernel_rfl, by unfold runB; kernel_rfl⟩
theorem bn_f1 (a b : Int) : allB a b false 1 := ⟨by unfold runB; kernel_rfl, by unfold runB; kernel_rfl, by unfold runB; kernel_rfl, by unfold runB; kernel_rfl, by unfold runB; kernel_rfl, by unfold runB; kernel_rfl, by unfold runB; kernel_rfl, by unfold runB; kernel_rfl, by unfold runB; kernel_rfl, by unfold runB; kernel_rfl, by unfold runB; kernel_rfl⟩
theorem bn_f2 (a b : Int) : allB a b false 2 := ⟨by unfold runB; kernel_rfl, by unfold runB; kernel_rfl, by unfold runB; kernel_rfl, by unfold runB; kernel_rfl, by unfold runB; kernel_rfl, by unfold runB; kernel_rfl, by unfold runB; kernel_rfl, by unfold runB; kernel_rfl, by unfold runB; kernel_rfl, by unfold runB; kernel_rfl, by unfold runB; kernel_rfl⟩
theorem bn_f3 (a b : Int) : allB a b false 3 := ⟨by unfold runB; kernel_rfl, by unfold runB; kernel_rfl, by unfold runB; kernel_rfl, by unfold runB; kernel_rfl, by unfold runB; kernel_rfl, by unfold runB; kernel_rfl, by unfold runB; kernel_rfl, by unfold runB; kernel_rfl, by unfold runB; kernel_rfl, by unfold runB; kernel_rfl, by unfold runB; kernel_rfl⟩
theorem bn_f4 (a b : Int) : allB a b false 4 := ⟨by unfold runB; kernel_rfl, by unfold runB; kernel_rfl, by unfold runB; kernel_rfl, by unfold runB; kernel_rfl, by unfold runB; kernel_rfl, by unfold runB; kernel_rfl, by unfold runB; kernel_rfl, by unfold runB; kernel_rfl, by unfold runB; kernel_rfl, by unfold runB; kernel_rfl, by unfold runB; kernel_rfl⟩
theorem bn_f5 (a b : Int) : allB a b false 5 := ⟨by unfold runB; kernel_rfl, by unfold runB; kernel_rfl, by unfold runB; kernel_rfl, by unfold runB; kernel_rfl, by unfold runB; kernel_rfl, by unfold runB; kernel_rfl, by unfold runB; kernel_rfl, by unfold runB; kernel_rfl, by unfold runB; kernel_rfl, by unfold runB; kernel_rfl, by unfold runB; kernel_rfl⟩
theorem bn_f6 (a b : Int) : allB a b false 6 := ⟨by unfold runB; kernel_rfl, by unfold runB; kernel_rfl, by unfold runB; kernel_rfl, by unfold runB; kernel_rfl, by unfold runB; kernel_rfl, by unfold runB; kernel_rfl, by unfold runB; kernel_rfl, by unfold runB; kernel_rfl, by unfold runB; kernel_rfl, by unfold runB; kernel_rfl, by unfold runB; kernel_rfl⟩
theorem bn_f7 (a b : Int) : allB a b false 7 := ⟨by unfold runB; kernel_rfl, by unfold runB; kernel_rfl, by unfold runB; kernel_rfl, by unfold runB; kernel_rfl, by unfold runB; kernel_rfl, by unfold runB; kernel_rfl, by unfold runB; kernel_rfl, by unfold runB; kernel_rfl, by unfold runB; kernel_rfl, by unfold runB; kernel_rfl, by unfold runB; kernel_rfl⟩
theorem cs_say {m : Int} {i : Nat} (h : m = (i : Int)) : allSay (cs m i) := by
  subst h
  unfold cs
  refine allSay_append ?_ ⟨decide_eq_true rfl, trivial⟩
  have : ∀ n : Nat, n ≤ i → allSay ((List.range n).map fun (q : Nat) => (decide ((i : Int) = (q : Int)), false)) := by
    intro n
    induction n with
    | zero => intro _; trivial
    | succ n ih =>
      intro hn
      rw [List.range_succ, List.map_append]
      exact allSay_append (ih (by omega)) ⟨decide_eq_false (by omega), trivial⟩
  exact this i (Nat.le_refl _)
theorem yes_of {v : Option V} (h : yesV v = true) : v = some .tt ∨ v = some (.s (.bool true)) := by
  unfold yesV at h
  split at h
  · exact .inl rfl
  · subst h; exact .inr rfl
  · cases h
theorem bnd_one {a b : Int} {t : Bool} {i j : Nat} (h : runB a b t i j) (hi : km a = (i : Int)) (hj : kn b = (j : Int)) : (bndX [iv a, iv b, bv t]).yes := by
  unfold runB at h
  obtain ⟨r, h1, h2⟩ := Option.map_eq_some_iff.1 h
  obtain ⟨c, r⟩ := r
  obtain ⟨h3, h4⟩ := Prod.mk.inj h2
  simp only at h3 h4
  subst h3
  have e := subT_eval h1 ⟨rfl, allSay_append (cs_say hi) ⟨rfl, cs_say hj⟩⟩
  rw [T.eval_anon] at e
  have := yes_of h4
  rw [← e] at this
  exact this
theorem all_one {a b : Int} {t : Bool} {i : Nat} (h : allB a b t i) (hi : km a = (i : Int)) (h0 : 0 ≤ kn b) (h1 : kn b < 11) : (bndX [iv a, iv b, bv t]).yes := by
  obtain ⟨a0, a1, a2, a3, a4, a5, a6, a7, a8, a9, a10⟩ := h
  have : kn b = 0 ∨ kn b = 1 ∨ kn b = 2 ∨ kn b = 3 ∨ kn b = 4 ∨ kn b = 5 ∨ kn b = 6 ∨ kn b = 7 ∨ kn b = 8 ∨ kn b = 9 ∨ kn b = 10 := by omega
  rcases this with q | q | q | q | q | q | q | q | q | q | q
  · exact bnd_one a0 hi q
  · exact bnd_one a1 hi q
  · exact bnd_one a2 hi q
  · exact bnd_one a3 hi q
  · exact bnd_one a4 hi q
  · exact bnd_one a5 hi q
  · exact bnd_one a6 hi q
  · exact bnd_one a7 hi q
  · exact bnd_one a8 hi q
  · exact bnd_one a9 hi q
  · exact bnd_one a10 hi q
theorem tmod_rng {x m : Int} (hm : 0 < m) (hx : 0 ≤ x) : 0 ≤ x.tmod m ∧ x.tmod m < m := by
  rw [Int.tmod_eq_emod_of_nonneg hx]
  exact ⟨Int.emod_nonneg _ (by omega), Int.emod_lt_of_pos _ hm⟩
theorem bnd_run (a b : Int) (t : Bool) : (bndX [iv a, iv b, bv t]).yes := by
  have u : ∀ n : Int, 0 ≤ IntKind.wrap .u64 n := fun n => by rw [IntKind.wrap_u64]; omega
  obtain ⟨h0, h1⟩ := tmod_rng (m := 8) (by decide) (u a)
  obtain ⟨g0, g1⟩ := tmod_rng (m := 11) (by decide) (u b)
  have h0 : 0 ≤ km a := h0
  have h1 : km a < 8 := h1
  have g0 : 0 ≤ kn b := g0
  have g1 : kn b < 11 := g1
  have : km a = 0 ∨ km a = 1 ∨ km a = 2 ∨ km a = 3 ∨ km a = 4 ∨ km a = 5 ∨ km a = 6 ∨ km a = 7 := by omega
  cases t with
  | true =>
    rcases this with q | q | q | q | q | q | q | q
    · exact all_one (bn_t0 a b) q g0 g1
    · exact all_one (bn_t1 a b) q g0 g1
    · exact all_one (bn_t2 a b) q g0 g1
    · exact all_one (bn_t3 a b) q g0 g1
    · exact all_one (bn_t4 a b) q g0 g1
    · exact all_one (bn_t5 a b) q g0 g1
    · exact all_one (bn_t6 a b) q g0 g1
    · exact all_one (bn_t7 a b) q g0 g1
  | false =>
    rcases this with q | q | q | q | q | q | q | q
    · exact all_one (bn_f0 a b) q g0 g1
    · exact all_one (bn_f1 a b) q g0 g1
    · exact all_one (bn_f2 a b) q g0 g1
    · exact all_one (bn_f3 a b) q g0 g1
    · exact all_one (bn_f4 a b) q g0 g1
    · exact all_one (bn_f5 a b) q g0 g1
    · exact all_one (bn_f6 a b) q g0 g1
    · exact all_one (bn_f7 a b) q g0 g1
theorem bnd_walk (a0 : Int) (w0 : (Lit.int .i64 a0).wf = true) (a1 : Int) (w1 : (Lit.int .i64 a1).wf = true) (a2 : Bool) (w : World) :
    Calls Try.prog 4 #[.int .i64 a0, .int .i64 a1, .bool a2] w fun e w' => e = .returned (.bool true) ∧ Below w.heap.size w w' :=
  law_yes bndX_ok (args := [iv a0, iv a1, bv a2]) rfl (bnd_run a0 a1 a2) w
end Go.Proofs.Ytnkingfmdgjmaaa.Evt

