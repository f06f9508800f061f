/- Layer 3: ConfParts. -/
import Derived.Test.YtfnadebkobfemaaConf3F
import Derived.Test.YtfnadebkobfemaaLaw
namespace Go.Proofs.Ytfnadebkobfemaa.Conf
open Go.Eng Go.RowKit Mil
set_option linter.unusedVariables false
set_option linter.unusedSimpArgs false
def edM' (a : Int) : Int := Int.tmod (IntKind.wrap .u64 a) 20
theorem say_app : ∀ {l r : List (Bool × Bool)}, allSay l → allSay r → allSay (l ++ r)
  | [], r, _, h => h
  | p :: l, r, h1, h2 => ⟨h1.1, say_app h1.2 h2⟩
/-! ### ConfParts -/
noncomputable def cpT (c : Cf) (p : Int) (ab : Bool) : T V := T.anon (execS C6 noLoops 11 [confV c, intV p, .s (.bool ab)])
def nmK : Nat → List UInt8
  | 0 => [116, 97, 114, 103, 101, 116]
  | 1 => [117, 116, 105, 108]
  | 2 => [115, 116, 97, 98, 108, 101]
  | 3 => [112, 97, 110, 105, 99]
  | 4 => [103, 114, 97, 105, 110]
  | 5 => [116, 104, 114, 101, 115, 104, 111, 108, 100]
  | 6 => [117, 112]
  | 7 => [100, 111, 119, 110]
  | 8 => [109, 105, 110]
  | 9 => [109, 97, 120]
  | 10 => [105, 110, 105, 116, 105, 97, 108]
  | 11 => [103, 114, 97, 99, 101]
  | 12 => [100, 101, 108, 97, 121]
  | 13 => [98, 117, 114, 115, 116]
  | 14 => [108, 105, 109, 105, 116]
  | 15 => [113, 117, 101, 117, 101]
  | 16 => [116, 105, 109, 101, 111, 117, 116]
  | 17 => [114, 101, 97, 100, 121]
  | 18 => [115, 117, 98, 115, 101, 116]
  | 19 => [115, 97, 109, 112, 108, 101]
  | _ => []
def setK (c : Cf) (v : Int) : Nat → Cf
  | 0 => { c with target := v }
  | 1 => { c with util := v }
  | 2 => { c with stable := v }
  | 3 => { c with panic := v }
  | 4 => { c with grain := v }
  | 5 => { c with threshold := v }
  | 6 => { c with up := v }
  | 7 => { c with down := v }
  | 8 => { c with min := v }
  | 9 => { c with max := v }
  | 10 => { c with initial := v }
  | 11 => { c with grace := v }
  | 12 => { c with delay := v }
  | 13 => { c with burst := v }
  | 14 => { c with limit := v }
  | 15 => { c with queue := v }
  | 16 => { c with timeout := v }
  | 17 => { c with ready := v }
  | 18 => { c with subset := v }
  | 19 => { c with sample := v }
  | _ => c
def cpV (c : Cf) (v : Int) (k : Nat) : V := .s (.bool ((⟨⟨wrongL (setK c v k)⟩⟩ : ByteArray).toList == (⟨⟨nmK k⟩⟩ : ByteArray).toList))
def cpU : Bool → Int
  | true => 1073741824
  | false => -1001
theorem cpNo (c : Cf) (p : Int) (ab : Bool) : T.path [true] (cpT c p ab) = some ([(!mayB c, true)], .tt) := by kernel_rfl
theorem cpTop (c : Cf) (p : Int) (ab : Bool) : subC [false, false] (cpT c p ab) = [(!mayB c, false), ((20 : Int) == 0, false)] := by kernel_rfl
def cpQ (c : Cf) (p : Int) (ab : Bool) (k : Nat) : Prop := (sub ([false, false] ++ chainC k) (cpT c p ab)).map (fun q => (q.1, q.2.eval)) = some ([(!mayB c, false), ((20 : Int) == 0, false)] ++ chainA (edM' p) k 0, some (cpV c (cpU ab) k))
theorem cpK0 (c : Cf) (p : Int) (ab : Bool) : cpQ c p ab 0 := by unfold cpQ; cases ab <;> kernel_rfl
theorem cpK1 (c : Cf) (p : Int) (ab : Bool) : cpQ c p ab 1 := by unfold cpQ; cases ab <;> kernel_rfl
theorem cpK2 (c : Cf) (p : Int) (ab : Bool) : cpQ c p ab 2 := by unfold cpQ; cases ab <;> kernel_rfl
theorem cpK3 (c : Cf) (p : Int) (ab : Bool) : cpQ c p ab 3 := by unfold cpQ; cases ab <;> kernel_rfl
theorem cpK4 (c : Cf) (p : Int) (ab : Bool) : cpQ c p ab 4 := by unfold cpQ; cases ab <;> kernel_rfl
theorem cpK5 (c : Cf) (p : Int) (ab : Bool) : cpQ c p ab 5 := by unfold cpQ; cases ab <;> kernel_rfl
theorem cpK6 (c : Cf) (p : Int) (ab : Bool) : cpQ c p ab 6 := by unfold cpQ; cases ab <;> kernel_rfl
theorem cpK7 (c : Cf) (p : Int) (ab : Bool) : cpQ c p ab 7 := by unfold cpQ; cases ab <;> kernel_rfl
theorem cpK8 (c : Cf) (p : Int) (ab : Bool) : cpQ c p ab 8 := by unfold cpQ; cases ab <;> kernel_rfl
theorem cpK9 (c : Cf) (p : Int) (ab : Bool) : cpQ c p ab 9 := by unfold cpQ; cases ab <;> kernel_rfl
theorem cpK10 (c : Cf) (p : Int) (ab : Bool) : cpQ c p ab 10 := by unfold cpQ; cases ab <;> kernel_rfl
theorem cpK11 (c : Cf) (p : Int) (ab : Bool) : cpQ c p ab 11 := by unfold cpQ; cases ab <;> kernel_rfl
theorem cpK12 (c : Cf) (p : Int) (ab : Bool) : cpQ c p ab 12 := by unfold cpQ; cases ab <;> kernel_rfl
theorem cpK13 (c : Cf) (p : Int) (ab : Bool) : cpQ c p ab 13 := by unfold cpQ; cases ab <;> kernel_rfl
theorem cpK14 (c : Cf) (p : Int) (ab : Bool) : cpQ c p ab 14 := by unfold cpQ; cases ab <;> kernel_rfl
theorem cpK15 (c : Cf) (p : Int) (ab : Bool) : cpQ c p ab 15 := by unfold cpQ; cases ab <;> kernel_rfl
theorem cpK16 (c : Cf) (p : Int) (ab : Bool) : cpQ c p ab 16 := by unfold cpQ; cases ab <;> kernel_rfl
theorem cpK17 (c : Cf) (p : Int) (ab : Bool) : cpQ c p ab 17 := by unfold cpQ; cases ab <;> kernel_rfl
theorem cpK18 (c : Cf) (p : Int) (ab : Bool) : cpQ c p ab 18 := by unfold cpQ; cases ab <;> kernel_rfl
theorem cpK19 (c : Cf) (p : Int) (ab : Bool) : cpQ c p ab 19 := by unfold cpQ; cases ab <;> kernel_rfl
theorem cpAll (c : Cf) (p : Int) (ab : Bool) (k : Nat) (hk : k < 20) : cpQ c p ab k := by
  match k, hk with
  | 0, _ => exact cpK0 c p ab
  | 1, _ => exact cpK1 c p ab
  | 2, _ => exact cpK2 c p ab
  | 3, _ => exact cpK3 c p ab
  | 4, _ => exact cpK4 c p ab
  | 5, _ => exact cpK5 c p ab
  | 6, _ => exact cpK6 c p ab
  | 7, _ => exact cpK7 c p ab
  | 8, _ => exact cpK8 c p ab
  | 9, _ => exact cpK9 c p ab
  | 10, _ => exact cpK10 c p ab
  | 11, _ => exact cpK11 c p ab
  | 12, _ => exact cpK12 c p ab
  | 13, _ => exact cpK13 c p ab
  | 14, _ => exact cpK14 c p ab
  | 15, _ => exact cpK15 c p ab
  | 16, _ => exact cpK16 c p ab
  | 17, _ => exact cpK17 c p ab
  | 18, _ => exact cpK18 c p ab
  | 19, _ => exact cpK19 c p ab
  | k + 20, h => omega
structure Nil (c : Cf) : Prop where
  e0 : outB c.target 10 1000000 = false
  e1 : outB c.util 100 1000 = false
  e2 : outB c.stable 6 600 = false
  e3 : outB c.panic 1 c.stable = false
  e4 : outB c.grain 1 c.panic = false
  e5 : outB c.threshold 1100 10000 = false
  e6 : outB c.up 1001 1000000 = false
  e7 : outB c.down 1001 1000000 = false
  e8 : outB c.min 0 100 = false
  e9 : (!(c.max == 0) && outB c.max (max c.min 1) 100) = false
  e10 : outB c.initial 0 (mostC c) = false
  e11 : outB c.grace 0 600 = false
  e12 : outB c.delay 0 600 = false
  e13 : (!(c.burst == -1000) && outB c.burst 0 100000000) = false
  e14 : outB c.limit 1 1000 = false
  e15 : outB c.queue 0 200 = false
  e16 : outB c.timeout 1 10000 = false
  e17 : outB c.ready 0 100 = false
  e18 : outB c.subset 0 100 = false
  e19 : outB c.sample 0 100 = false
theorem nil_of {c : Cf} (h : wrongL c = []) : Nil c := by
  have step : ∀ {b : Bool} {x y : List UInt8}, (if b = true then x else y) = [] → x ≠ [] → b = false ∧ y = [] := fun h hx => ite_nil hx h
  unfold wrongL at h
  obtain ⟨h0, h⟩ := step h (by simp)
  obtain ⟨h1, h⟩ := step h (by simp)
  obtain ⟨h2, h⟩ := step h (by simp)
  obtain ⟨h3, h⟩ := step h (by simp)
  obtain ⟨h4, h⟩ := step h (by simp)
  obtain ⟨h5, h⟩ := step h (by simp)
  obtain ⟨h6, h⟩ := step h (by simp)
  obtain ⟨h7, h⟩ := step h (by simp)
  obtain ⟨h8, h⟩ := step h (by simp)
  obtain ⟨h9, h⟩ := step h (by simp)
  obtain ⟨h10, h⟩ := step h (by simp)
  obtain ⟨h11, h⟩ := step h (by simp)
  obtain ⟨h12, h⟩ := step h (by simp)
  obtain ⟨h13, h⟩ := step h (by simp)
  obtain ⟨h14, h⟩ := step h (by simp)
  obtain ⟨h15, h⟩ := step h (by simp)
  obtain ⟨h16, h⟩ := step h (by simp)
  obtain ⟨h17, h⟩ := step h (by simp)
  obtain ⟨h18, h⟩ := step h (by simp)
  obtain ⟨h19, h⟩ := step h (by simp)
  exact ⟨h0, h1, h2, h3, h4, h5, h6, h7, h8, h9, h10, h11, h12, h13, h14, h15, h16, h17, h18, h19⟩
theorem step1 {b : Bool} {x y z : List UInt8} (hb : b = false) (h : y = z) : (if b = true then x else y) = z := by subst hb; exact h
theorem step2 {b : Bool} {x y : List UInt8} (hb : b = true) : (if b = true then x else y) = x := by subst hb; rfl
theorem out_lo {v lo hi : Int} (h : v < lo) : outB v lo hi = true := by unfold outB; rw [decide_eq_true h]; rfl
theorem out_hi {v lo hi : Int} (h : hi < v) : outB v lo hi = true := by unfold outB; rw [decide_eq_true h]; simp
theorem out_lo2 {v lo hi : Int} {b : Bool} (hb : b = true) (h : v < lo) : (b && outB v lo hi) = true := by rw [hb, out_lo h]; rfl
theorem out_hi2 {v lo hi : Int} {b : Bool} (hb : b = true) (h : hi < v) : (b && outB v lo hi) = true := by rw [hb, out_hi h]; rfl
theorem most_small {c : Cf} (n : Nil c) : mostC c < 1073741824 := by
  unfold mostC
  have h := n.e9
  split
  · omega
  · rename_i hq
    have h0 : (c.max == 0) = false := by simpa using hq
    rw [h0] at h
    have := (outB_false (show outB c.max (max c.min 1) 100 = false by simpa using h)).2
    omega
theorem wlo0 {c : Cf} (n : Nil c) : wrongL (setK c (-1001) 0) = nmK 0 := step2 (out_lo (show (-1001 : Int) < 10 by decide))
theorem wlo1 {c : Cf} (n : Nil c) : wrongL (setK c (-1001) 1) = nmK 1 := step1 n.e0 (step2 (out_lo (show (-1001 : Int) < 100 by decide)))
theorem wlo2 {c : Cf} (n : Nil c) : wrongL (setK c (-1001) 2) = nmK 2 := step1 n.e0 (step1 n.e1 (step2 (out_lo (show (-1001 : Int) < 6 by decide))))
theorem wlo3 {c : Cf} (n : Nil c) : wrongL (setK c (-1001) 3) = nmK 3 := step1 n.e0 (step1 n.e1 (step1 n.e2 (step2 (out_lo (show (-1001 : Int) < 1 by decide)))))
theorem wlo4 {c : Cf} (n : Nil c) : wrongL (setK c (-1001) 4) = nmK 4 := step1 n.e0 (step1 n.e1 (step1 n.e2 (step1 n.e3 (step2 (out_lo (show (-1001 : Int) < 1 by decide))))))
theorem wlo5 {c : Cf} (n : Nil c) : wrongL (setK c (-1001) 5) = nmK 5 := step1 n.e0 (step1 n.e1 (step1 n.e2 (step1 n.e3 (step1 n.e4 (step2 (out_lo (show (-1001 : Int) < 1100 by decide)))))))
theorem wlo6 {c : Cf} (n : Nil c) : wrongL (setK c (-1001) 6) = nmK 6 := step1 n.e0 (step1 n.e1 (step1 n.e2 (step1 n.e3 (step1 n.e4 (step1 n.e5 (step2 (out_lo (show (-1001 : Int) < 1001 by decide))))))))
theorem wlo7 {c : Cf} (n : Nil c) : wrongL (setK c (-1001) 7) = nmK 7 := step1 n.e0 (step1 n.e1 (step1 n.e2 (step1 n.e3 (step1 n.e4 (step1 n.e5 (step1 n.e6 (step2 (out_lo (show (-1001 : Int) < 1001 by decide)))))))))
theorem wlo8 {c : Cf} (n : Nil c) : wrongL (setK c (-1001) 8) = nmK 8 := step1 n.e0 (step1 n.e1 (step1 n.e2 (step1 n.e3 (step1 n.e4 (step1 n.e5 (step1 n.e6 (step1 n.e7 (step2 (out_lo (show (-1001 : Int) < 0 by decide))))))))))
theorem wlo9 {c : Cf} (n : Nil c) : wrongL (setK c (-1001) 9) = nmK 9 := step1 n.e0 (step1 n.e1 (step1 n.e2 (step1 n.e3 (step1 n.e4 (step1 n.e5 (step1 n.e6 (step1 n.e7 (step1 n.e8 (step2 (out_lo2 (show (!((-1001 : Int) == 0)) = true by decide) (show (-1001 : Int) < max c.min 1 by omega)))))))))))
theorem wlo10 {c : Cf} (n : Nil c) : wrongL (setK c (-1001) 10) = nmK 10 := step1 n.e0 (step1 n.e1 (step1 n.e2 (step1 n.e3 (step1 n.e4 (step1 n.e5 (step1 n.e6 (step1 n.e7 (step1 n.e8 (step1 n.e9 (step2 (out_lo (show (-1001 : Int) < 0 by decide))))))))))))
theorem wlo11 {c : Cf} (n : Nil c) : wrongL (setK c (-1001) 11) = nmK 11 := step1 n.e0 (step1 n.e1 (step1 n.e2 (step1 n.e3 (step1 n.e4 (step1 n.e5 (step1 n.e6 (step1 n.e7 (step1 n.e8 (step1 n.e9 (step1 n.e10 (step2 (out_lo (show (-1001 : Int) < 0 by decide)))))))))))))
theorem wlo12 {c : Cf} (n : Nil c) : wrongL (setK c (-1001) 12) = nmK 12 := step1 n.e0 (step1 n.e1 (step1 n.e2 (step1 n.e3 (step1 n.e4 (step1 n.e5 (step1 n.e6 (step1 n.e7 (step1 n.e8 (step1 n.e9 (step1 n.e10 (step1 n.e11 (step2 (out_lo (show (-1001 : Int) < 0 by decide))))))))))))))
theorem wlo13 {c : Cf} (n : Nil c) : wrongL (setK c (-1001) 13) = nmK 13 := step1 n.e0 (step1 n.e1 (step1 n.e2 (step1 n.e3 (step1 n.e4 (step1 n.e5 (step1 n.e6 (step1 n.e7 (step1 n.e8 (step1 n.e9 (step1 n.e10 (step1 n.e11 (step1 n.e12 (step2 (out_lo2 (show (!((-1001 : Int) == -1000)) = true by decide) (show (-1001 : Int) < 0 by decide)))))))))))))))
theorem wlo14 {c : Cf} (n : Nil c) : wrongL (setK c (-1001) 14) = nmK 14 := step1 n.e0 (step1 n.e1 (step1 n.e2 (step1 n.e3 (step1 n.e4 (step1 n.e5 (step1 n.e6 (step1 n.e7 (step1 n.e8 (step1 n.e9 (step1 n.e10 (step1 n.e11 (step1 n.e12 (step1 n.e13 (step2 (out_lo (show (-1001 : Int) < 1 by decide))))))))))))))))
theorem wlo15 {c : Cf} (n : Nil c) : wrongL (setK c (-1001) 15) = nmK 15 := step1 n.e0 (step1 n.e1 (step1 n.e2 (step1 n.e3 (step1 n.e4 (step1 n.e5 (step1 n.e6 (step1 n.e7 (step1 n.e8 (step1 n.e9 (step1 n.e10 (step1 n.e11 (step1 n.e12 (step1 n.e13 (step1 n.e14 (step2 (out_lo (show (-1001 : Int) < 0 by decide)))))))))))))))))
theorem wlo16 {c : Cf} (n : Nil c) : wrongL (setK c (-1001) 16) = nmK 16 := step1 n.e0 (step1 n.e1 (step1 n.e2 (step1 n.e3 (step1 n.e4 (step1 n.e5 (step1 n.e6 (step1 n.e7 (step1 n.e8 (step1 n.e9 (step1 n.e10 (step1 n.e11 (step1 n.e12 (step1 n.e13 (step1 n.e14 (step1 n.e15 (step2 (out_lo (show (-1001 : Int) < 1 by decide))))))))))))))))))
theorem wlo17 {c : Cf} (n : Nil c) : wrongL (setK c (-1001) 17) = nmK 17 := step1 n.e0 (step1 n.e1 (step1 n.e2 (step1 n.e3 (step1 n.e4 (step1 n.e5 (step1 n.e6 (step1 n.e7 (step1 n.e8 (step1 n.e9 (step1 n.e10 (step1 n.e11 (step1 n.e12 (step1 n.e13 (step1 n.e14 (step1 n.e15 (step1 n.e16 (step2 (out_lo (show (-1001 : Int) < 0 by decide)))))))))))))))))))
theorem wlo18 {c : Cf} (n : Nil c) : wrongL (setK c (-1001) 18) = nmK 18 := step1 n.e0 (step1 n.e1 (step1 n.e2 (step1 n.e3 (step1 n.e4 (step1 n.e5 (step1 n.e6 (step1 n.e7 (step1 n.e8 (step1 n.e9 (step1 n.e10 (step1 n.e11 (step1 n.e12 (step1 n.e13 (step1 n.e14 (step1 n.e15 (step1 n.e16 (step1 n.e17 (step2 (out_lo (show (-1001 : Int) < 0 by decide))))))))))))))))))))
theorem wlo19 {c : Cf} (n : Nil c) : wrongL (setK c (-1001) 19) = nmK 19 := step1 n.e0 (step1 n.e1 (step1 n.e2 (step1 n.e3 (step1 n.e4 (step1 n.e5 (step1 n.e6 (step1 n.e7 (step1 n.e8 (step1 n.e9 (step1 n.e10 (step1 n.e11 (step1 n.e12 (step1 n.e13 (step1 n.e14 (step1 n.e15 (step1 n.e16 (step1 n.e17 (step1 n.e18 (step2 (out_lo (show (-1001 : Int) < 0 by decide)))))))))))))))))))))
theorem whi0 {c : Cf} (n : Nil c) : wrongL (setK c (1073741824) 0) = nmK 0 := step2 (out_hi (show (1000000 : Int) < 1073741824 by decide))
theorem whi1 {c : Cf} (n : Nil c) : wrongL (setK c (1073741824) 1) = nmK 1 := step1 n.e0 (step2 (out_hi (show (1000 : Int) < 1073741824 by decide)))
theorem whi2 {c : Cf} (n : Nil c) : wrongL (setK c (1073741824) 2) = nmK 2 := step1 n.e0 (step1 n.e1 (step2 (out_hi (show (600 : Int) < 1073741824 by decide))))
theorem whi3 {c : Cf} (n : Nil c) : wrongL (setK c (1073741824) 3) = nmK 3 := step1 n.e0 (step1 n.e1 (step1 n.e2 (step2 (out_hi (show c.stable < 1073741824 by have := (outB_false n.e2).2; omega)))))
theorem whi4 {c : Cf} (n : Nil c) : wrongL (setK c (1073741824) 4) = nmK 4 := step1 n.e0 (step1 n.e1 (step1 n.e2 (step1 n.e3 (step2 (out_hi (show c.panic < 1073741824 by have := (outB_false n.e2).2; have := (outB_false n.e3).2; omega))))))
theorem whi5 {c : Cf} (n : Nil c) : wrongL (setK c (1073741824) 5) = nmK 5 := step1 n.e0 (step1 n.e1 (step1 n.e2 (step1 n.e3 (step1 n.e4 (step2 (out_hi (show (10000 : Int) < 1073741824 by decide)))))))
theorem whi6 {c : Cf} (n : Nil c) : wrongL (setK c (1073741824) 6) = nmK 6 := step1 n.e0 (step1 n.e1 (step1 n.e2 (step1 n.e3 (step1 n.e4 (step1 n.e5 (step2 (out_hi (show (1000000 : Int) < 1073741824 by decide))))))))
theorem whi7 {c : Cf} (n : Nil c) : wrongL (setK c (1073741824) 7) = nmK 7 := step1 n.e0 (step1 n.e1 (step1 n.e2 (step1 n.e3 (step1 n.e4 (step1 n.e5 (step1 n.e6 (step2 (out_hi (show (1000000 : Int) < 1073741824 by decide)))))))))
theorem whi8 {c : Cf} (n : Nil c) : wrongL (setK c (1073741824) 8) = nmK 8 := step1 n.e0 (step1 n.e1 (step1 n.e2 (step1 n.e3 (step1 n.e4 (step1 n.e5 (step1 n.e6 (step1 n.e7 (step2 (out_hi (show (100 : Int) < 1073741824 by decide))))))))))
theorem whi9 {c : Cf} (n : Nil c) : wrongL (setK c (1073741824) 9) = nmK 9 := step1 n.e0 (step1 n.e1 (step1 n.e2 (step1 n.e3 (step1 n.e4 (step1 n.e5 (step1 n.e6 (step1 n.e7 (step1 n.e8 (step2 (out_hi2 (show (!((1073741824 : Int) == 0)) = true by decide) (show (100 : Int) < 1073741824 by decide)))))))))))
theorem whi10 {c : Cf} (n : Nil c) : wrongL (setK c (1073741824) 10) = nmK 10 := step1 n.e0 (step1 n.e1 (step1 n.e2 (step1 n.e3 (step1 n.e4 (step1 n.e5 (step1 n.e6 (step1 n.e7 (step1 n.e8 (step1 n.e9 (step2 (out_hi (show mostC c < 1073741824 from most_small n))))))))))))
theorem whi11 {c : Cf} (n : Nil c) : wrongL (setK c (1073741824) 11) = nmK 11 := step1 n.e0 (step1 n.e1 (step1 n.e2 (step1 n.e3 (step1 n.e4 (step1 n.e5 (step1 n.e6 (step1 n.e7 (step1 n.e8 (step1 n.e9 (step1 n.e10 (step2 (out_hi (show (600 : Int) < 1073741824 by decide)))))))))))))
theorem whi12 {c : Cf} (n : Nil c) : wrongL (setK c (1073741824) 12) = nmK 12 := step1 n.e0 (step1 n.e1 (step1 n.e2 (step1 n.e3 (step1 n.e4 (step1 n.e5 (step1 n.e6 (step1 n.e7 (step1 n.e8 (step1 n.e9 (step1 n.e10 (step1 n.e11 (step2 (out_hi (show (600 : Int) < 1073741824 by decide))))))))))))))
theorem whi13 {c : Cf} (n : Nil c) : wrongL (setK c (1073741824) 13) = nmK 13 := step1 n.e0 (step1 n.e1 (step1 n.e2 (step1 n.e3 (step1 n.e4 (step1 n.e5 (step1 n.e6 (step1 n.e7 (step1 n.e8 (step1 n.e9 (step1 n.e10 (step1 n.e11 (step1 n.e12 (step2 (out_hi2 (show (!((1073741824 : Int) == -1000)) = true by decide) (show (100000000 : Int) < 1073741824 by decide)))))))))))))))
theorem whi14 {c : Cf} (n : Nil c) : wrongL (setK c (1073741824) 14) = nmK 14 := step1 n.e0 (step1 n.e1 (step1 n.e2 (step1 n.e3 (step1 n.e4 (step1 n.e5 (step1 n.e6 (step1 n.e7 (step1 n.e8 (step1 n.e9 (step1 n.e10 (step1 n.e11 (step1 n.e12 (step1 n.e13 (step2 (out_hi (show (1000 : Int) < 1073741824 by decide))))))))))))))))
theorem whi15 {c : Cf} (n : Nil c) : wrongL (setK c (1073741824) 15) = nmK 15 := step1 n.e0 (step1 n.e1 (step1 n.e2 (step1 n.e3 (step1 n.e4 (step1 n.e5 (step1 n.e6 (step1 n.e7 (step1 n.e8 (step1 n.e9 (step1 n.e10 (step1 n.e11 (step1 n.e12 (step1 n.e13 (step1 n.e14 (step2 (out_hi (show (200 : Int) < 1073741824 by decide)))))))))))))))))
theorem whi16 {c : Cf} (n : Nil c) : wrongL (setK c (1073741824) 16) = nmK 16 := step1 n.e0 (step1 n.e1 (step1 n.e2 (step1 n.e3 (step1 n.e4 (step1 n.e5 (step1 n.e6 (step1 n.e7 (step1 n.e8 (step1 n.e9 (step1 n.e10 (step1 n.e11 (step1 n.e12 (step1 n.e13 (step1 n.e14 (step1 n.e15 (step2 (out_hi (show (10000 : Int) < 1073741824 by decide))))))))))))))))))
theorem whi17 {c : Cf} (n : Nil c) : wrongL (setK c (1073741824) 17) = nmK 17 := step1 n.e0 (step1 n.e1 (step1 n.e2 (step1 n.e3 (step1 n.e4 (step1 n.e5 (step1 n.e6 (step1 n.e7 (step1 n.e8 (step1 n.e9 (step1 n.e10 (step1 n.e11 (step1 n.e12 (step1 n.e13 (step1 n.e14 (step1 n.e15 (step1 n.e16 (step2 (out_hi (show (100 : Int) < 1073741824 by decide)))))))))))))))))))
theorem whi18 {c : Cf} (n : Nil c) : wrongL (setK c (1073741824) 18) = nmK 18 := step1 n.e0 (step1 n.e1 (step1 n.e2 (step1 n.e3 (step1 n.e4 (step1 n.e5 (step1 n.e6 (step1 n.e7 (step1 n.e8 (step1 n.e9 (step1 n.e10 (step1 n.e11 (step1 n.e12 (step1 n.e13 (step1 n.e14 (step1 n.e15 (step1 n.e16 (step1 n.e17 (step2 (out_hi (show (100 : Int) < 1073741824 by decide))))))))))))))))))))
theorem whi19 {c : Cf} (n : Nil c) : wrongL (setK c (1073741824) 19) = nmK 19 := step1 n.e0 (step1 n.e1 (step1 n.e2 (step1 n.e3 (step1 n.e4 (step1 n.e5 (step1 n.e6 (step1 n.e7 (step1 n.e8 (step1 n.e9 (step1 n.e10 (step1 n.e11 (step1 n.e12 (step1 n.e13 (step1 n.e14 (step1 n.e15 (step1 n.e16 (step1 n.e17 (step1 n.e18 (step2 (out_hi (show (100 : Int) < 1073741824 by decide)))))))))))))))))))))
theorem wAll {c : Cf} (n : Nil c) (k : Nat) (hk : k < 20) : wrongL (setK c (-1001) k) = nmK k ∧ wrongL (setK c 1073741824 k) = nmK k := by
  match k, hk with
  | 0, _ => exact ⟨wlo0 n, whi0 n⟩
  | 1, _ => exact ⟨wlo1 n, whi1 n⟩
  | 2, _ => exact ⟨wlo2 n, whi2 n⟩
  | 3, _ => exact ⟨wlo3 n, whi3 n⟩
  | 4, _ => exact ⟨wlo4 n, whi4 n⟩
  | 5, _ => exact ⟨wlo5 n, whi5 n⟩
  | 6, _ => exact ⟨wlo6 n, whi6 n⟩
  | 7, _ => exact ⟨wlo7 n, whi7 n⟩
  | 8, _ => exact ⟨wlo8 n, whi8 n⟩
  | 9, _ => exact ⟨wlo9 n, whi9 n⟩
  | 10, _ => exact ⟨wlo10 n, whi10 n⟩
  | 11, _ => exact ⟨wlo11 n, whi11 n⟩
  | 12, _ => exact ⟨wlo12 n, whi12 n⟩
  | 13, _ => exact ⟨wlo13 n, whi13 n⟩
  | 14, _ => exact ⟨wlo14 n, whi14 n⟩
  | 15, _ => exact ⟨wlo15 n, whi15 n⟩
  | 16, _ => exact ⟨wlo16 n, whi16 n⟩
  | 17, _ => exact ⟨wlo17 n, whi17 n⟩
  | 18, _ => exact ⟨wlo18 n, whi18 n⟩
  | 19, _ => exact ⟨wlo19 n, whi19 n⟩
  | k + 20, h => omega
theorem confParts_walk (c : Cf) (_ : c.Ok) (p : Int) (_ : (Lit.int .i64 p).wf = true) (ab : Bool) (w : World) :
    Calls Try.prog 11 #[.agg #[.int .i64 c.target, .int .i64 c.util, .int .i64 c.stable, .int .i64 c.panic, .int .i64 c.grain, .int .i64 c.threshold, .int .i64 c.up, .int .i64 c.down, .int .i64 c.min, .int .i64 c.max, .int .i64 c.initial, .int .i64 c.grace, .int .i64 c.delay, .int .i64 c.burst, .int .i64 c.limit, .int .i64 c.queue, .int .i64 c.timeout, .int .i64 c.ready, .int .i64 c.subset, .int .i64 c.sample], .int .i64 p, .bool ab] w fun e w' => e = .returned (.bool true) ∧ Below w.heap.size w w' := by
  refine law_yes (args := [confV c, intV p, .s (.bool ab)]) (execS_plain C6_ok mixed Try.func11 (by kernel_rfl) (by kernel_rfl)) rfl (yes_anon ?_) w
  show T.yes (cpT c p ab)
  cases hm : mayB c
  · exact .inl (T.path_eval (cpNo c p ab) ⟨by rw [hm]; rfl, trivial⟩)
  · have hn : Nil c := nil_of (by unfold mayB at hm; exact List.isEmpty_iff.1 hm)
    have e1 : edM' p = (p % 18446744073709551616) % 20 := by unfold edM'; rw [wrapu64]; exact Int.tmod_eq_emod_of_nonneg (by omega)
    obtain ⟨k, hk⟩ : ∃ k : Nat, edM' p = k := ⟨(edM' p).toNat, by omega⟩
    obtain ⟨⟨cs, x⟩, q1, q2⟩ := Option.map_eq_some_iff.1 (cpAll c p ab k (by omega))
    simp only [Prod.mk.injEq] at q2
    obtain ⟨rfl, g1⟩ := q2
    have s1 := sub_eval q1 (say_app (l := [(!mayB c, false), ((20 : Int) == 0, false)]) ⟨by rw [hm]; rfl, rfl, trivial⟩ (chainA_is (by rw [hk]; simp)))
    obtain ⟨w1, w2⟩ := wAll hn k (by omega)
    refine .inr ?_
    rw [s1, g1]
    unfold cpV
    cases ab
    · show some (V.s (S.bool ((⟨⟨wrongL (setK c (-1001) k)⟩⟩ : ByteArray).toList == (⟨⟨nmK k⟩⟩ : ByteArray).toList))) = _
      rw [w1]; simp
    · show some (V.s (S.bool ((⟨⟨wrongL (setK c 1073741824 k)⟩⟩ : ByteArray).toList == (⟨⟨nmK k⟩⟩ : ByteArray).toList))) = _
      rw [w2]; simp
end Go.Proofs.Ytfnadebkobfemaa.Conf
