/- Layer 19: PickNone, its loop. -/
import Derived.Test.YtacdadifjgppbaaPicC
namespace Go.Proofs.Ytacdadifjgppbaa.Pic
open Go.Eng Go.RowKit Go.Flt Lod Brk
set_option linter.unusedVariables false
set_option linter.unusedSimpArgs false
noncomputable def ln1 : Code := loopAt Try.prog 16 0
abbrev SN : List (Nat × Src) := [(0, .same), (1000, .tmp 6)]
structure PN where (g : List Int) (k : Nat) (m : Int)
structure AN where (z : List (Nat × Nat)) (j : Nat) (i : Int)
def vsN (p : PN) (a : AN) : List V := [.sub 0 1 0 p.k, iv p.m, .sub 1000 1 0 a.j, iv a.i]
def bsN (p : PN) (a : AN) : List Blk := [.lst false 3 [.int .i64] p.g, .lst true 23 CX a.z]
noncomputable def FN (p : PN) (a : AN) : St := mkSt [0,5,6,7] [0,1000] 1001 73 (vsN p a) (bsN p a)
noncomputable def rdN (p : PN) (a : AN) : T (Ex × St) := T.anon (roundN C3 noLoops ln1 [0,5,6,7] SN 1000 1001 (mkSt [0,5,6,7] (keysR SN) 1001 73 (vsN p a) (bsN p a)))
noncomputable def lm1 : Code := loopAt Try.prog 18 0
noncomputable def lm2 : Code := loopAt Try.prog 18 1
def nB (p : PN) (a : AN) : Int := IntKind.wrap .i64 (p.m + IntKind.wrap .i64 (Int.tmod (IntKind.wrap .u64 (gI p.g a.i)) 9))
def nW (p : PN) (a : AN) : Int := Int.tmod (IntKind.wrap .u64 (Int.tdiv (IntKind.wrap .u64 (gI p.g a.i)) 9)) 9
def nx (p : PN) (a : AN) : Nat × Nat := (floatOfInt .f64 (nB p a), floatOfInt .f64 (nW p a))
def idI (g : List Int) (k : Nat) (i : Int) : Bool := decide (0 ≤ i) && (decide (i < (k : Int)) && decide (0 + i.toNat < g.length))
def ldI (g : List Int) (i : Int) : Bool := decide (0 + i.toNat < g.length)
theorem wayN (p : PN) (a : AN) : T.path [true, true, true, false, true, true, false, false, true] (rdN p a) = some ([(bif decide (a.i < (p.k : Int)) then decide (a.i < 20) else false, true), (idI p.g p.k a.i, true), (ldI p.g a.i, true), ((9 : Int) == 0, false), (idI p.g p.k a.i, true), (ldI p.g a.i, true), ((9 : Int) == 0, false), ((9 : Int) == 0, false),
  (true && (decide (a.j ≤ a.z.length) && decide (a.j + [nx p a].length ≤ 1000000)), true)], (.normal, FN p ⟨List.take a.j a.z ++ [nx p a], a.j + [nx p a].length, IntKind.wrap .i64 (a.i + 1)⟩)) := by kernel_rfl
theorem wayNx (p : PN) (a : AN) : T.path [false] (rdN p a) = some ([(bif decide (a.i < (p.k : Int)) then decide (a.i < 20) else false, false)], (.exit 0, FN p a)) := by kernel_rfl
def goN (p : PN) (a : AN) : Bool := bif decide (a.i < (p.k : Int)) then decide (a.i < 20) else false
def muN (p : PN) (a : AN) : Nat := (20 - a.i).toNat
def okN (p : PN) (a : AN) : Prop := p.k = p.g.length ∧ 0 ≤ p.m ∧ p.m ≤ 50 ∧ a.j = a.z.length ∧ a.i = a.z.length ∧ a.i ≤ 20 ∧ ∀ x ∈ a.z, isW x.1 = true ∧ isW x.2 = true ∧ p.m ≤ valW x.1 ∧ valW x.1 ≤ p.m + 8
theorem floatW {n : Int} (h0 : 0 ≤ n) (h : n ≤ 1099511627776) : isW (floatOfInt .f64 n) = true ∧ valW (floatOfInt .f64 n) = n := by
  rw [floatOf h0 h]
  exact ⟨isW_fI (by omega), (valW_fI (by omega)).trans (by omega)⟩
theorem umod (a : Int) {m : Int} (hm : 0 < m) : 0 ≤ Int.tmod (IntKind.wrap .u64 a) m ∧ Int.tmod (IntKind.wrap .u64 a) m < m := by
  rw [wrapu64, Int.tmod_eq_emod_of_nonneg (Int.emod_nonneg _ (by decide))]
  exact modU_range a hm
theorem stepN (p : PN) (a : AN) (h : okN p a) (hg : goN p a = true) : ∃ b, stepC okN rdN FN muN p a b := by
  obtain ⟨h1, h2, h3, h4, h5, h6, h7⟩ := id h
  have hg0 := hg
  unfold goN at hg
  rw [cond_and] at hg
  simp only [Bool.and_eq_true, decide_eq_true_eq] at hg
  have hw : IntKind.wrap .i64 (a.i + 1) = a.i + 1 := wrap64_in (by omega) (by omega)
  have l1 : ldI p.g a.i = true := decide_eq_true (by omega)
  have i1 : idI p.g p.k a.i = true := by
    unfold idI
    rw [decide_eq_true (show 0 ≤ a.i by omega), decide_eq_true hg.1, decide_eq_true (show 0 + a.i.toNat < p.g.length by omega)]; rfl
  have b1 := umod (gI p.g a.i) (m := 9) (by decide)
  have b2 := umod (Int.tdiv (IntKind.wrap .u64 (gI p.g a.i)) 9) (m := 9) (by decide)
  have e1 : nB p a = p.m + Int.tmod (IntKind.wrap .u64 (gI p.g a.i)) 9 := by
    unfold nB
    rw [wrap64_in (n := Int.tmod _ _) (by omega) (by omega), wrap64_in (by omega) (by omega)]
  have f1 := floatW (n := nB p a) (by omega) (by omega)
  have f2 := floatW (n := nW p a) b2.1 (by unfold nW; omega)
  refine ⟨_, T.path_eval (wayN p a) ⟨hg0, i1, l1, rfl, i1, l1, rfl, rfl, ?_, trivial⟩, ⟨h1, h2, h3, ?_, ?_, ?_, ?_⟩, ?_⟩
  · rw [decide_eq_true (show a.j ≤ a.z.length by omega), decide_eq_true (show a.j + [nx p a].length ≤ 1000000 by simp; omega)]; rfl
  · show a.j + [nx p a].length = (List.take a.j a.z ++ [nx p a]).length
    rw [h4]; simp
  · show IntKind.wrap .i64 (a.i + 1) = ((List.take a.j a.z ++ [nx p a]).length : Int)
    rw [hw, h4]; simp; omega
  · show IntKind.wrap .i64 (a.i + 1) ≤ 20; rw [hw]; omega
  · show ∀ x ∈ List.take a.j a.z ++ [nx p a], _
    rw [h4, List.take_length]
    intro x hx
    rcases List.mem_append.1 hx with q | q
    · exact h7 x q
    · obtain rfl := List.mem_singleton.1 q
      refine ⟨f1.1, f2.1, ?_, ?_⟩
      · show p.m ≤ valW (floatOfInt .f64 (nB p a)); rw [f1.2]; omega
      · show valW (floatOfInt .f64 (nB p a)) ≤ p.m + 8; rw [f1.2]; omega
  · show (20 - IntKind.wrap .i64 (a.i + 1)).toNat < (20 - a.i).toNat
    rw [hw]; omega
theorem exN (p : PN) (a : AN) (h : okN p a) (hg : goN p a = false) : (rdN p a).eval = some (.exit 0, FN p a) := T.path_eval (wayNx p a) ⟨hg, trivial⟩
def decN : List V → List Blk → Option (PN × AN)
  | [.sub 0 1 0 k, .s (.int .i64 m), .sub 1000 1 0 j, .s (.int .i64 i)], [.lst false t0 [.int .i64] g, .lst true t1 [.cx .f64] z] => if t0 = 3 then if t1 = 23 then some (⟨g, k, m⟩, ⟨z, j, i⟩) else none else none
  | _, _ => none
theorem decN_ok (l : List V) (b : List Blk) (d : PN × AN) (h : decN l b = some d) : l = vsN d.1 d.2 ∧ b = bsN d.1 d.2 := by
  unfold decN at h
  split at h
  · split at h
    · rename_i ht0
      split at h
      · rename_i ht1
        subst ht0 ht1
        cases h
        exact ⟨rfl, rfl⟩
      · cases h
    · cases h
  · cases h
noncomputable def famN : LSpec := famC [0,5,6,7] SN 1000 1001 73 decN okN goN rdN FN muN (.exit 0)
theorem lpN_ok : LoopOk C3 ln1 famN := famC_ok (vs := vsN) (bs := bsN) C3_ok mixed (noLoops_ok _) decN_ok (by simp) (fun _ _ => rfl) (fun _ _ => rfl) stepN exN
noncomputable def nlist : List (Nat × LSpec) := [(4, famN)]
theorem nreg : firstReg ln1 = some 4 := by kernel_rfl
end Go.Proofs.Ytacdadifjgppbaa.Pic
