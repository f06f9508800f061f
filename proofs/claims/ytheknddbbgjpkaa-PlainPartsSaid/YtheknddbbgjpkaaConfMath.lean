/- Settings as plain numbers: which may be, and what they come to. No program is named here. -/
import Derived.RowKit
import Derived.Test.YtheknddbbgjpkaaMilMath
namespace Go.Proofs.Ytheknddbbgjpkaa.Conf
open Mil

/-- the twenty parts of settings, in their order -/
structure Cf where
  target : Int
  util : Int
  stable : Int
  panic : Int
  grain : Int
  threshold : Int
  up : Int
  down : Int
  min : Int
  max : Int
  initial : Int
  grace : Int
  delay : Int
  burst : Int
  limit : Int
  queue : Int
  timeout : Int
  ready : Int
  subset : Int
  sample : Int

/-- each part fits 64 bits -/
structure Cf.Ok (c : Cf) : Prop where
  target : -9223372036854775808 ≤ c.target ∧ c.target ≤ 9223372036854775807
  util : -9223372036854775808 ≤ c.util ∧ c.util ≤ 9223372036854775807
  stable : -9223372036854775808 ≤ c.stable ∧ c.stable ≤ 9223372036854775807
  panic : -9223372036854775808 ≤ c.panic ∧ c.panic ≤ 9223372036854775807
  grain : -9223372036854775808 ≤ c.grain ∧ c.grain ≤ 9223372036854775807
  threshold : -9223372036854775808 ≤ c.threshold ∧ c.threshold ≤ 9223372036854775807
  up : -9223372036854775808 ≤ c.up ∧ c.up ≤ 9223372036854775807
  down : -9223372036854775808 ≤ c.down ∧ c.down ≤ 9223372036854775807
  min : -9223372036854775808 ≤ c.min ∧ c.min ≤ 9223372036854775807
  max : -9223372036854775808 ≤ c.max ∧ c.max ≤ 9223372036854775807
  initial : -9223372036854775808 ≤ c.initial ∧ c.initial ≤ 9223372036854775807
  grace : -9223372036854775808 ≤ c.grace ∧ c.grace ≤ 9223372036854775807
  delay : -9223372036854775808 ≤ c.delay ∧ c.delay ≤ 9223372036854775807
  burst : -9223372036854775808 ≤ c.burst ∧ c.burst ≤ 9223372036854775807
  limit : -9223372036854775808 ≤ c.limit ∧ c.limit ≤ 9223372036854775807
  queue : -9223372036854775808 ≤ c.queue ∧ c.queue ≤ 9223372036854775807
  timeout : -9223372036854775808 ≤ c.timeout ∧ c.timeout ≤ 9223372036854775807
  ready : -9223372036854775808 ≤ c.ready ∧ c.ready ≤ 9223372036854775807
  subset : -9223372036854775808 ≤ c.subset ∧ c.subset ≤ 9223372036854775807
  sample : -9223372036854775808 ≤ c.sample ∧ c.sample ≤ 9223372036854775807

def outB (n lo hi : Int) : Bool := decide (n < lo) || decide (hi < n)
def mostC (c : Cf) : Int := if c.max = 0 then 100 else c.max
def perC (c : Cf) : Int := max (cutV (mulI c.target c.util)) 1

/-- the name of the first part that may not be -/
def wrongL (c : Cf) : List UInt8 :=
  if outB c.target 10 1000000 then [116, 97, 114, 103, 101, 116] else
  if outB c.util 100 1000 then [117, 116, 105, 108] else
  if outB c.stable 6 600 then [115, 116, 97, 98, 108, 101] else
  if outB c.panic 1 c.stable then [112, 97, 110, 105, 99] else
  if outB c.grain 1 c.panic then [103, 114, 97, 105, 110] else
  if outB c.threshold 1100 10000 then [116, 104, 114, 101, 115, 104, 111, 108, 100] else
  if outB c.up 1001 1000000 then [117, 112] else
  if outB c.down 1001 1000000 then [100, 111, 119, 110] else
  if outB c.min 0 100 then [109, 105, 110] else
  if (!(c.max == 0) && outB c.max (max c.min 1) 100) then [109, 97, 120] else
  if outB c.initial 0 (mostC c) then [105, 110, 105, 116, 105, 97, 108] else
  if outB c.grace 0 600 then [103, 114, 97, 99, 101] else
  if outB c.delay 0 600 then [100, 101, 108, 97, 121] else
  if (!(c.burst == -1000) && outB c.burst 0 100000000) then [98, 117, 114, 115, 116] else
  if outB c.limit 1 1000 then [108, 105, 109, 105, 116] else
  if outB c.queue 0 200 then [113, 117, 101, 117, 101] else
  if outB c.timeout 1 10000 then [116, 105, 109, 101, 111, 117, 116] else
  if outB c.ready 0 100 then [114, 101, 97, 100, 121] else
  if outB c.subset 0 100 then [115, 117, 98, 115, 101, 116] else
  if outB c.sample 0 100 then [115, 97, 109, 112, 108, 101] else
  []
def mayB (c : Cf) : Bool := (wrongL c).isEmpty

theorem outB_false {n lo hi : Int} (h : outB n lo hi = false) : lo ≤ n ∧ n ≤ hi := by
  unfold outB at h; simp only [Bool.or_eq_false_iff, decide_eq_false_iff_not] at h; omega
theorem outB_true {n lo hi : Int} (h : outB n lo hi = true) : n < lo ∨ hi < n := by
  unfold outB at h; simp only [Bool.or_eq_true, decide_eq_true_eq] at h; omega
theorem outB_in {n lo hi : Int} (h1 : lo ≤ n) (h2 : n ≤ hi) : outB n lo hi = false := by
  unfold outB; rw [decide_eq_false (by omega), decide_eq_false (by omega)]; rfl

/-- settings that may be: every part within its bounds -/
structure Cf.May (c : Cf) : Prop where
  target : 10 ≤ c.target ∧ c.target ≤ 1000000
  util : 100 ≤ c.util ∧ c.util ≤ 1000
  stable : 6 ≤ c.stable ∧ c.stable ≤ 600
  panic : 1 ≤ c.panic ∧ c.panic ≤ c.stable
  grain : 1 ≤ c.grain ∧ c.grain ≤ c.panic
  threshold : 1100 ≤ c.threshold ∧ c.threshold ≤ 10000
  up : 1001 ≤ c.up ∧ c.up ≤ 1000000
  down : 1001 ≤ c.down ∧ c.down ≤ 1000000
  min : 0 ≤ c.min ∧ c.min ≤ 100
  max : c.max = 0 ∨ (c.min ≤ c.max ∧ 1 ≤ c.max ∧ c.max ≤ 100)
  initial : 0 ≤ c.initial ∧ c.initial ≤ mostC c
  grace : 0 ≤ c.grace ∧ c.grace ≤ 600
  delay : 0 ≤ c.delay ∧ c.delay ≤ 600
  burst : c.burst = -1000 ∨ (0 ≤ c.burst ∧ c.burst ≤ 100000000)
  limit : 1 ≤ c.limit ∧ c.limit ≤ 1000
  queue : 0 ≤ c.queue ∧ c.queue ≤ 200
  timeout : 1 ≤ c.timeout ∧ c.timeout ≤ 10000
  ready : 0 ≤ c.ready ∧ c.ready ≤ 100
  subset : 0 ≤ c.subset ∧ c.subset ≤ 100
  sample : 0 ≤ c.sample ∧ c.sample ≤ 100

theorem ite_nil {b : Bool} {x y : List UInt8} (hx : x ≠ []) (h : (if b = true then x else y) = []) : b = false ∧ y = [] := by
  cases b
  · exact ⟨rfl, by simpa using h⟩
  · exact absurd (by simpa using h) hx

theorem may_of {c : Cf} (h : mayB c = true) : c.May := by
  have h : wrongL c = [] := by simpa [mayB] using h
  unfold wrongL at h
  obtain ⟨e0, h⟩ := ite_nil (by decide) h
  obtain ⟨e1, h⟩ := ite_nil (by decide) h
  obtain ⟨e2, h⟩ := ite_nil (by decide) h
  obtain ⟨e3, h⟩ := ite_nil (by decide) h
  obtain ⟨e4, h⟩ := ite_nil (by decide) h
  obtain ⟨e5, h⟩ := ite_nil (by decide) h
  obtain ⟨e6, h⟩ := ite_nil (by decide) h
  obtain ⟨e7, h⟩ := ite_nil (by decide) h
  obtain ⟨e8, h⟩ := ite_nil (by decide) h
  obtain ⟨e9, h⟩ := ite_nil (by decide) h
  obtain ⟨e10, h⟩ := ite_nil (by decide) h
  obtain ⟨e11, h⟩ := ite_nil (by decide) h
  obtain ⟨e12, h⟩ := ite_nil (by decide) h
  obtain ⟨e13, h⟩ := ite_nil (by decide) h
  obtain ⟨e14, h⟩ := ite_nil (by decide) h
  obtain ⟨e15, h⟩ := ite_nil (by decide) h
  obtain ⟨e16, h⟩ := ite_nil (by decide) h
  obtain ⟨e17, h⟩ := ite_nil (by decide) h
  obtain ⟨e18, h⟩ := ite_nil (by decide) h
  obtain ⟨e19, h⟩ := ite_nil (by decide) h
  have emax : c.max = 0 ∨ (c.min ≤ c.max ∧ 1 ≤ c.max ∧ c.max ≤ 100) := by
    simp only [Bool.and_eq_false_iff, Bool.not_eq_false', beq_iff_eq] at e9
    rcases e9 with e | e
    · exact .inl e
    · have := outB_false e; omega
  have eburst : c.burst = -1000 ∨ (0 ≤ c.burst ∧ c.burst ≤ 100000000) := by
    simp only [Bool.and_eq_false_iff, Bool.not_eq_false', beq_iff_eq] at e13
    rcases e13 with e | e
    · exact .inl e
    · exact .inr (outB_false e)
  exact ⟨outB_false e0, outB_false e1, outB_false e2, outB_false e3, outB_false e4, outB_false e5, outB_false e6, outB_false e7, outB_false e8, emax, outB_false e10, outB_false e11, outB_false e12, eburst, outB_false e14, outB_false e15, outB_false e16, outB_false e17, outB_false e18, outB_false e19⟩

theorem wrong_nil {c : Cf} (h : c.May) : wrongL c = [] := by
  unfold wrongL
  have emax : (!(c.max == 0) && outB c.max (Max.max c.min 1) 100) = false := by
    rcases h.max with e | e
    · rw [e]; rfl
    · rw [outB_in (by omega) e.2.2, Bool.and_false]
  have eburst : (!(c.burst == -1000) && outB c.burst 0 100000000) = false := by
    rcases h.burst with e | e
    · rw [e]; rfl
    · rw [outB_in e.1 e.2, Bool.and_false]
  rw [outB_in h.target.1 h.target.2, outB_in h.util.1 h.util.2, outB_in h.stable.1 h.stable.2, outB_in h.panic.1 h.panic.2, outB_in h.grain.1 h.grain.2, outB_in h.threshold.1 h.threshold.2, outB_in h.up.1 h.up.2, outB_in h.down.1 h.down.2, outB_in h.min.1 h.min.2, emax, outB_in h.initial.1 h.initial.2, outB_in h.grace.1 h.grace.2, outB_in h.delay.1 h.delay.2, eburst, outB_in h.limit.1 h.limit.2, outB_in h.queue.1 h.queue.2, outB_in h.timeout.1 h.timeout.2, outB_in h.ready.1 h.ready.2, outB_in h.subset.1 h.subset.2, outB_in h.sample.1 h.sample.2]
  rfl
theorem may_iff (c : Cf) : mayB c = true ↔ c.May := ⟨may_of, fun h => by rw [mayB, wrong_nil h]; rfl⟩

theorem most_of {c : Cf} (h : c.May) : 1 ≤ mostC c ∧ mostC c ≤ 100 ∧ c.min ≤ mostC c := by
  unfold mostC
  have h1 := h.min
  rcases h.max with e | e
  · rw [if_pos e]; omega
  · rw [if_neg (by omega)]; omega

end Go.Proofs.Ytheknddbbgjpkaa.Conf
