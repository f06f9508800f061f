/- Layer 3's laws: bounds, the most. -/
import Derived.Test.YtlofigbanflccaaConf3S
import Derived.Test.YtlofigbanflccaaYes
namespace Go.Proofs.Ytlofigbanflccaa.Conf
open Go.Eng Go.RowKit Mil
set_option linter.unusedVariables false
set_option linter.unusedSimpArgs false

theorem mulI_le {t u : Int} (h1 : 10 ≤ t) (h2 : t ≤ 1000000) (h3 : 100 ≤ u) (h4 : u ≤ 1000) : 1000 ≤ t * u ∧ t * u ≤ t * 1000 := by
  constructor
  · have := Int.mul_le_mul h1 h3 (by omega) (by omega); omega
  · exact Int.mul_le_mul_of_nonneg_left h4 (by omega)
/-- a pod's share: the whole thousandths of the target's part in use -/
theorem per_of {c : Cf} (h : c.May) : perC c = c.target * c.util / 1000 ∧ 1000 ≤ c.target * c.util ∧ c.target * c.util ≤ c.target * 1000 := by
  have hm := mulI_le h.target.1 h.target.2 h.util.1 h.util.2
  have ht := h.target
  have e : cutV (mulI c.target c.util) = c.target * c.util / 1000 := by
    unfold mulI
    exact (cut_in _ (by omega) (by omega)).1
  refine ⟨?_, hm⟩
  unfold perC
  rw [e]
  omega

def boundsL (c : Cf) : Bool := (bif bif bif bif bif bif bif bif decide (c.min ≤ mostC c) then decide (1 ≤ mostC c) else false then decide (mostC c ≤ 100) else false then decide (c.initial ≤ mostC c) else false then decide (1 ≤ perC c) else false then decide (perC c ≤ c.target) else false
  then decide (IntKind.wrap .i64 (perC c * 1000) ≤ IntKind.wrap .i64 (IntKind.wrap .i64 (c.target * c.util) + 999)) else false then decide (c.grain ≤ c.panic) else false then decide (c.panic ≤ c.stable) else false)
theorem bounds_true {c : Cf} (h : c.May) : boundsL c = true := by
  have h1 := most_of h
  obtain ⟨h2, h3, h4⟩ := per_of h
  have ht := h.target
  have hi := h.initial
  have hg := h.grain
  have hp := h.panic
  unfold boundsL
  rw [h2]
  generalize c.target * c.util = P at *
  rw [wrap64_in (n := P / 1000 * 1000) (by omega) (by omega), wrap64_in (n := P) (by omega) (by omega), wrap64_in (n := P + 999) (by omega) (by omega)]
  simp only [bif_and, Bool.and_eq_true, decide_eq_true_eq]
  omega
theorem bounds_walk (c : Cf) (hc : c.Ok) (w : World) : Calls Try.prog 7 #[.agg #[.int .i64 c.target, .int .i64 c.util, .int .i64 c.stable, .int .i64 c.panic, .int .i64 c.grain, .int .i64 c.threshold, .int .i64 c.up, .int .i64 c.down, .int .i64 c.min, .int .i64 c.max, .int .i64 c.initial, .int .i64 c.grace, .int .i64 c.delay, .int .i64 c.burst, .int .i64 c.limit, .int .i64 c.queue, .int .i64 c.timeout, .int .i64 c.ready, .int .i64 c.subset, .int .i64 c.sample]] w fun e w' => e = .returned (.bool true) ∧ Below w.heap.size w w' := by
  refine law_yes (args := [confV c]) (execS_plain C4_ok mixed Try.func7 (by kernel_rfl) (by kernel_rfl)) rfl ?_ w
  have e : execS C4 noLoops 7 [confV c] = T.ite (some 16) (!mayB c) (.ret .tt) (.ite none (inR c.target && inR c.util) (.ret (.s (.bool (boundsL c)))) .fail) := by kernel_rfl
  rw [e]
  refine yes_ite (fun _ => yes_tt) fun h => ?_
  have hm := may_of (by simpa using h)
  refine yes_then ?_ (yes_ret (bounds_true hm))
  rw [Bool.and_eq_true, inR_iff, inR_iff]
  exact ⟨hc.target, hc.util⟩

/-- near the bounds: the least, the most, the first -/
def near (a b x : Int) : Cf := { dflt with min := a, max := b, initial := x }
def mm (a b x : Int) : Bool := bif decide (a ≤ 100) then bif (bif b == 0 then decide (x ≤ 100) else false) then true else bif bif bif decide (1 ≤ b) then decide (b ≤ 100) else false then decide (a ≤ b) else false then decide (x ≤ b) else false else false
def bytes (l : List UInt8) : List UInt8 := ByteArray.toList ⟨⟨l⟩⟩
theorem bytes_eq (l : List UInt8) : bytes l = l := by unfold bytes; rw [ByteArray.toList_eq]
def mostL (a b x : Int) : Bool := (bif bif bif mayB (near a b x) == mm a b x then (bytes (wrongL (near a b x)) == bytes []) == mm a b x else false then
  bif bif bif mm a b x then true else bytes (wrongL (near a b x)) == bytes [109, 105, 110] then true else bytes (wrongL (near a b x)) == bytes [109, 97, 120] then true else bytes (wrongL (near a b x)) == bytes [105, 110, 105, 116, 105, 97, 108] else false then
  (b == 0) == bif mostC (near a b x) == 100 then b != 100 else false else false)
theorem wrong_near (a b x : Int) : wrongL (near a b x) = if outB a 0 100 then [109, 105, 110] else if (!(b == 0) && outB b (max a 1) 100) then [109, 97, 120] else if outB x 0 (mostC (near a b x)) then [105, 110, 105, 116, 105, 97, 108] else [] := rfl
theorem most_near (a b x : Int) : mostC (near a b x) = if b = 0 then 100 else b := rfl
theorem most_true {a b x : Int} (ha : 0 ≤ a) (hb : 0 ≤ b) (hx : 0 ≤ x) : mostL a b x = true := by
  have e1 := wrong_near a b x
  have e2 := most_near a b x
  unfold mostL mayB
  simp only [bytes_eq]
  rw [e2]
  have fin : ((b == 0) == bif (if b = 0 then (100 : Int) else b) == 100 then b != 100 else false) = true := by
    by_cases h : b = 0
    · subst h; rfl
    · rw [if_neg h]
      by_cases h2 : b = 100
      · subst h2; rfl
      · have : (b == 0) = false := by simpa using h
        have h3 : (b == 100) = false := by simpa using h2
        rw [this, h3]; rfl
  rw [fin]
  have key : (wrongL (near a b x) = [] ∧ mm a b x = true) ∨ ((wrongL (near a b x) = [109, 105, 110] ∨ wrongL (near a b x) = [109, 97, 120] ∨ wrongL (near a b x) = [105, 110, 105, 116, 105, 97, 108]) ∧ mm a b x = false) := by
    have em : mm a b x = true ↔ a ≤ 100 ∧ ((b = 0 ∧ x ≤ 100) ∨ (1 ≤ b ∧ b ≤ 100 ∧ a ≤ b ∧ x ≤ b)) := by
      unfold mm
      simp only [bif_and, bif_or, Bool.and_eq_true, Bool.or_eq_true, decide_eq_true_eq, beq_iff_eq]
      omega
    have en : ∀ h : ¬ (a ≤ 100 ∧ ((b = 0 ∧ x ≤ 100) ∨ (1 ≤ b ∧ b ≤ 100 ∧ a ≤ b ∧ x ≤ b))), mm a b x = false := fun h => by
      cases hm : mm a b x
      · rfl
      · exact absurd (em.1 hm) h
    rw [e1, e2]
    cases c1 : outB a 0 100
    · have h1 := outB_false c1
      by_cases hb0 : b = 0
      · rw [if_pos hb0]
        subst hb0
        cases c3 : outB x 0 100
        · have h3 := outB_false c3
          exact .inl ⟨rfl, em.2 ⟨h1.2, .inl ⟨rfl, h3.2⟩⟩⟩
        · have h3 := outB_true c3
          exact .inr ⟨.inr (.inr rfl), en (by omega)⟩
      · have hb' : (b == 0) = false := by simpa using hb0
        rw [if_neg hb0, hb']
        cases c2 : outB b (max a 1) 100
        · have h2 := outB_false c2
          cases c3 : outB x 0 b
          · have h3 := outB_false c3
            exact .inl ⟨rfl, em.2 ⟨h1.2, .inr (by omega)⟩⟩
          · have h3 := outB_true c3
            exact .inr ⟨.inr (.inr rfl), en (by omega)⟩
        · have h2 := outB_true c2
          exact .inr ⟨.inr (.inl rfl), en (by omega)⟩
    · have h1 := outB_true c1
      exact .inr ⟨.inl rfl, en (by omega)⟩
  rcases key with ⟨k1, k2⟩ | ⟨k1 | k1 | k1, k2⟩ <;> rw [k1, k2] <;> rfl
def modE (a m : Int) : Int := IntKind.wrap IntKind.i64 (Int.tmod (IntKind.wrap IntKind.u64 a) m)
theorem modE_range (n : Int) {m : Int} (hm : 0 < m) (h2 : m ≤ 9223372036854775807) : 0 ≤ modE n m ∧ modE n m < m := by
  unfold modE
  rw [modU hm h2]
  exact modU_range n hm
theorem most_walk (a : Int) (_ : (Lit.int .i64 a).wf = true) (b : Int) (_ : (Lit.int .i64 b).wf = true) (x : Int) (_ : (Lit.int .i64 x).wf = true) (w : World) : Calls Try.prog 8 #[.int .i64 a, .int .i64 b, .int .i64 x] w fun e w' => e = .returned (.bool true) ∧ Below w.heap.size w w' := by
  refine law_yes (args := [intV a, intV b, intV x]) (execS_plain C4_ok mixed Try.func8 (by kernel_rfl) (by kernel_rfl)) rfl ?_ w
  have e : execS C4 noLoops 8 [intV a, intV b, intV x] = T.ite none ((104 : Int) == 0) .fail (T.ite none ((104 : Int) == 0) .fail (T.ite none ((104 : Int) == 0) .fail (.ret (.s (.bool (mostL (modE a 104) (modE b 104) (modE x 104))))))) := by kernel_rfl
  rw [e]
  exact yes_else rfl (yes_else rfl (yes_else rfl (yes_ret (most_true (modE_range _ (by decide) (by decide)).1 (modE_range _ (by decide) (by decide)).1 (modE_range _ (by decide) (by decide)).1))))
end Go.Proofs.Ytlofigbanflccaa.Conf
