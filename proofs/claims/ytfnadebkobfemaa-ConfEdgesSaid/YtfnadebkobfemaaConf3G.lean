/- Layer 3: ConfEdges, ConfParts. -/
import Derived.Test.YtfnadebkobfemaaConf3F
import Derived.Test.YtfnadebkobfemaaLaw
namespace Go.Proofs.Ytfnadebkobfemaa.Conf
open Go.Eng Go.RowKit Mil
set_option linter.unusedVariables false
set_option linter.unusedSimpArgs false
noncomputable def edT (a b : Int) : T V := T.anon (execS C6 noLoops 10 [intV a, intV b])
def edM (a : Int) : Int := Int.tmod (IntKind.wrap .u64 a) 20
def edN (a : Int) : Int := Int.tmod (IntKind.wrap .u64 a) 6
def yesT (t : T V) : Bool := match t with
  | .ret (.s (.bool b)) => b
  | .ret .tt => true
  | _ => false
theorem yesT_is {t : T V} (h : yesT t = true) : t.yes := by
  unfold yesT at h
  split at h
  · exact .inr (by rw [h]; rfl)
  · exact .inl rfl
  · cases h
/-- a chain's branches -/
def fan : Nat → T V → Option (List (Bool × T V))
  | 0, _ => some []
  | n + 1, .ite _ c x y => (fan n y).map ((c, x) :: ·)
  | _, _ => none
theorem fan_eval : ∀ {n : Nat} {t : T V} {l : List (Bool × T V)}, fan n t = some l → ∀ {k : Nat} {c : Bool} {x : T V}, l[k]? = some (c, x) → c = true → (∀ j, j < k → ∀ q, l[j]? = some q → q.1 = false) → t.eval = x.eval
  | 0, t, l, h, k, c, x, hk, _, _ => by
    simp only [fan, Option.some.injEq] at h
    subst h; simp at hk
  | n + 1, .ite i cc a y, l, h, k, c, x, hk, hc, hj => by
    simp only [fan] at h
    obtain ⟨l', hl, rfl⟩ := Option.map_eq_some_iff.1 h
    cases k with
    | zero =>
      simp only [List.getElem?_cons_zero, Option.some.injEq, Prod.mk.injEq] at hk
      obtain ⟨rfl, rfl⟩ := hk
      subst hc; rfl
    | succ k =>
      have h0 : cc = false := hj 0 (by omega) (cc, a) rfl
      subst h0
      exact fan_eval hl (by simpa using hk) hc fun j hj' q hq => hj (j + 1) (by omega) q (by simpa using hq)
  | _ + 1, .ret _, _, h, _, _, _, _, _, _ => by simp [fan] at h
  | _ + 1, .fail, _, h, _, _, _, _, _, _ => by simp [fan] at h
/-- of a chain by a number's value the branch of that value -/
theorem fan_at {α : Type} {n : Nat} {t : T V} {g : T V → α} {m : Int} {f : Nat → α} (h : (fan n t).map (List.map fun p => (p.1, g p.2)) = some ((List.range n).map fun (k : Nat) => (decide (m = (k : Int)), f k))) {k : Nat} (hk : k < n) (hm : m = k) : ∃ x, t.eval = x.eval ∧ g x = f k := by
  obtain ⟨l, hl, e⟩ := Option.map_eq_some_iff.1 h
  have at_ : ∀ j, j < n → ∃ c x, l[j]? = some (c, x) ∧ c = decide (m = (j : Int)) ∧ g x = f j := by
    intro j hj
    have := congrArg (fun z => z[j]?) e
    simp only [List.getElem?_map, List.getElem?_range hj, Option.map_some] at this
    cases hq : l[j]? with
    | none => rw [hq] at this; cases this
    | some q =>
      rw [hq] at this
      simp only [Option.map_some, Option.some.injEq, Prod.mk.injEq] at this
      exact ⟨q.1, q.2, rfl, this.1, this.2⟩
  obtain ⟨c, x, h1, h2, h3⟩ := at_ k hk
  refine ⟨x, fan_eval hl h1 (by rw [h2]; exact decide_eq_true hm) (fun j hj q hq => ?_), h3⟩
  obtain ⟨c', x', g1, g2, _⟩ := at_ j (by omega)
  rw [g1] at hq
  cases hq
  rw [g2]; exact decide_eq_false (by omega)
theorem allSay_of' : ∀ {l : List (Bool × Bool)}, (l.all fun p => p.1 == p.2) = true → allSay l
  | [], _ => trivial
  | p :: l, h => by
    rw [List.all_cons, Bool.and_eq_true] at h
    exact ⟨by simpa using h.1, allSay_of' h.2⟩
def edI (x : T V) : Bool × Option (List (Bool × Bool)) := ((subC [false] x).all (fun p => p.1 == p.2), (fan 6 (subT [false] x)).map (List.map fun p => (p.1, yesT p.2)))
def edE (b : Int) : Bool × Option (List (Bool × Bool)) := (true, some ((List.range 6).map fun (e : Nat) => (decide (edN b = (e : Int)), true)))
def edQ (a b : Int) (k : Nat) : Prop := (sub ([false] ++ chainC k) (edT a b)).map (fun q => (q.1, edI q.2)) = some ([((20 : Int) == 0, false)] ++ chainA (edM a) k 0, edE b)
theorem edK0 (a b : Int) : edQ a b 0 := by unfold edQ; kernel_rfl
theorem edK1 (a b : Int) : edQ a b 1 := by unfold edQ; kernel_rfl
theorem edK2 (a b : Int) : edQ a b 2 := by unfold edQ; kernel_rfl
theorem edK3 (a b : Int) : edQ a b 3 := by unfold edQ; kernel_rfl
theorem edK4 (a b : Int) : edQ a b 4 := by unfold edQ; kernel_rfl
theorem edK5 (a b : Int) : edQ a b 5 := by unfold edQ; kernel_rfl
theorem edK6 (a b : Int) : edQ a b 6 := by unfold edQ; kernel_rfl
theorem edK7 (a b : Int) : edQ a b 7 := by unfold edQ; kernel_rfl
theorem edK8 (a b : Int) : edQ a b 8 := by unfold edQ; kernel_rfl
theorem edK9 (a b : Int) : edQ a b 9 := by unfold edQ; kernel_rfl
theorem edK10 (a b : Int) : edQ a b 10 := by unfold edQ; kernel_rfl
theorem edK11 (a b : Int) : edQ a b 11 := by unfold edQ; kernel_rfl
theorem edK12 (a b : Int) : edQ a b 12 := by unfold edQ; kernel_rfl
theorem edK13 (a b : Int) : edQ a b 13 := by unfold edQ; kernel_rfl
theorem edK14 (a b : Int) : edQ a b 14 := by unfold edQ; kernel_rfl
theorem edK15 (a b : Int) : edQ a b 15 := by unfold edQ; kernel_rfl
theorem edK16 (a b : Int) : edQ a b 16 := by unfold edQ; kernel_rfl
theorem edK17 (a b : Int) : edQ a b 17 := by unfold edQ; kernel_rfl
theorem edK18 (a b : Int) : edQ a b 18 := by unfold edQ; kernel_rfl
theorem edK19 (a b : Int) : edQ a b 19 := by unfold edQ; kernel_rfl
theorem edAll (a b : Int) (k : Nat) (hk : k < 20) : edQ a b k := by
  match k, hk with
  | 0, _ => exact edK0 a b
  | 1, _ => exact edK1 a b
  | 2, _ => exact edK2 a b
  | 3, _ => exact edK3 a b
  | 4, _ => exact edK4 a b
  | 5, _ => exact edK5 a b
  | 6, _ => exact edK6 a b
  | 7, _ => exact edK7 a b
  | 8, _ => exact edK8 a b
  | 9, _ => exact edK9 a b
  | 10, _ => exact edK10 a b
  | 11, _ => exact edK11 a b
  | 12, _ => exact edK12 a b
  | 13, _ => exact edK13 a b
  | 14, _ => exact edK14 a b
  | 15, _ => exact edK15 a b
  | 16, _ => exact edK16 a b
  | 17, _ => exact edK17 a b
  | 18, _ => exact edK18 a b
  | 19, _ => exact edK19 a b
  | k + 20, h => omega
theorem say_app0 : ∀ {l r : List (Bool × Bool)}, allSay l → allSay r → allSay (l ++ r)
  | [], r, _, h => h
  | p :: l, r, h1, h2 => ⟨h1.1, say_app0 h1.2 h2⟩
theorem confEdges_walk (a : Int) (_ : (Lit.int .i64 a).wf = true) (b : Int) (_ : (Lit.int .i64 b).wf = true) (w : World) :
    Calls Try.prog 10 #[.int .i64 a, .int .i64 b] w fun e w' => e = .returned (.bool true) ∧ Below w.heap.size w w' := by
  refine law_yes (args := [intV a, intV b]) (execS_plain C6_ok mixed Try.func10 (by kernel_rfl) (by kernel_rfl)) rfl (yes_anon ?_) w
  have e1 : edM a = (a % 18446744073709551616) % 20 := by unfold edM; rw [wrapu64]; exact Int.tmod_eq_emod_of_nonneg (by omega)
  have e2 : edN b = (b % 18446744073709551616) % 6 := by unfold edN; rw [wrapu64]; exact Int.tmod_eq_emod_of_nonneg (by omega)
  obtain ⟨k, hk⟩ : ∃ k : Nat, edM a = k := ⟨(edM a).toNat, by omega⟩
  obtain ⟨e, he⟩ : ∃ e : Nat, edN b = e := ⟨(edN b).toNat, by omega⟩
  obtain ⟨⟨cs, x⟩, q1, q2⟩ := Option.map_eq_some_iff.1 (edAll a b k (by omega))
  simp only [Prod.mk.injEq] at q2
  obtain ⟨rfl, g1⟩ := q2
  have s1 := sub_eval q1 (say_app0 (l := [((20 : Int) == 0, false)]) ⟨rfl, trivial⟩ (chainA_is (by rw [hk]; simp)))
  unfold edE at g1
  unfold edI at g1
  simp only [Prod.mk.injEq] at g1
  obtain ⟨g1, g2⟩ := g1
  have s2 : x.eval = (subT [false] x).eval := subT_eval (allSay_of' g1)
  obtain ⟨y, s3, g3⟩ := fan_at g2 (k := e) (by omega) he
  have := yesT_is g3
  unfold T.yes at this ⊢
  show (edT a b).eval = _ ∨ (edT a b).eval = _
  rw [s1, s2, s3]; exact this
end Go.Proofs.Ytfnadebkobfemaa.Conf
